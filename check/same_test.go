package check_test

import (
	"bytes"
	"testing"

	"vaultkeel/api"
	"vaultkeel/check"
	"vaultkeel/plain"
)

// put gives a copy of b with an object at a place, and its bytes there.
func put(b []byte, handle, tag, at int, body string) []byte {
	return replaced(object(b, handle, tag+1, at, len(body)), at, []byte(body)...)
}

// two gives an image of n bytes with two objects and two roots.
func two(n int) []byte {
	b := put(put(laid(n), 1, 0, 288, "first"), 9, 15, 300, "nine")
	return root(root(b, 0, "a", 1), 1, "main", 9)
}

func TestSameAsItself(t *testing.T) {
	for _, b := range [][]byte{make([]byte, 288), laid(6400), some(), full(), led(), two(320)} {
		wantSame(t, b, b, true, api.OK)
		if same, err := check.Same(b, b); err != nil || !same {
			t.Errorf("Same of one list: got %v, %v", same, err)
		}
	}
}

// Wherever the objects stand, in whatever order, and however long the images are.
func TestSameWhereverObjectsStand(t *testing.T) {
	b := two(320)
	for _, n := range []int{309, 310, 320, 1288, 6400} {
		for _, at := range [][2]int{{288, 293}, {292, 288}, {288, n - 4}, {n - 5, 289}, {n - 5, n - 9}} {
			other := put(put(laid(n), 1, 0, at[0], "first"), 9, 15, at[1], "nine")
			wantSame(t, b, root(root(other, 0, "a", 1), 1, "main", 9), true, api.OK)
		}
	}
}

// The same roots at whatever places.
func TestSameWhereverRootsStand(t *testing.T) {
	b := two(320)
	none := noRoot(noRoot(b, 0), 1)
	for i := range 8 {
		for k := range 8 {
			if i != k {
				wantSame(t, b, root(root(none, i, "a", 1), k, "main", 9), true, api.OK)
			}
		}
	}
}

// Bytes that nobody has are not asked, nor how many there are.
func TestSameWhateverNobodyHas(t *testing.T) {
	for _, n := range lengths {
		wantSame(t, laid(n), make([]byte, 288), true, api.OK)
		wantSame(t, bytes.Repeat([]byte{0}, n), laid(6400), true, api.OK)
	}
	b := two(320)
	for at := 288; at < 320; at++ {
		isTaken := 288 <= at && at < 293 || 300 <= at && at < 304
		wantSame(t, b, replaced(b, at, b[at]+1), !isTaken, api.OK)
		wantSame(t, two(6400), replaced(b, at, b[at]^128), !isTaken, api.OK)
	}
}

func TestNotTheSameObjects(t *testing.T) {
	b := two(320)
	bare := noRoot(noRoot(b, 0), 1)
	for _, other := range [][]byte{
		put(bare, 1, 1, 288, "first"),
		put(bare, 9, 14, 300, "nine"),
		put(bare, 1, 0, 288, "firs"),
		put(bare, 1, 0, 288, "firsts"),
		put(bare, 1, 0, 288, "firsu"),
		put(bare, 1, 0, 288, "girst"),
		put(bare, 9, 15, 300, "nin"),
		put(bare, 40, 0, 310, "x"),
		put(bare, 2, 0, 310, "first"),
		put(noHandle(bare, 1), 2, 0, 288, "first"),
		put(noHandle(bare, 9), 8, 15, 300, "nine"),
		noHandle(bare, 1),
		noHandle(bare, 9),
		noHandle(noHandle(bare, 1), 9),
		put(put(bare, 9, 0, 288, "first"), 1, 15, 300, "nine"),
		make([]byte, 288),
		full(),
	} {
		wantSame(t, bare, other, false, api.OK)
		wantSame(t, other, other, true, api.OK)
	}
	for handle := 1; handle <= 40; handle++ {
		wantSame(t, full(), noHandle(noRoots(full()), handle), false, api.OK)
		wantSame(t, noRoots(full()), noHandle(noRoots(full()), handle), false, api.OK)
	}
}

func noRoots(b []byte) []byte { return replaced(b, 200, make([]byte, 88)...) }

// The first and the last byte of each object of an image that is full.
func TestNotTheSameByte(t *testing.T) {
	b := full()
	for handle := 1; handle <= 40; handle++ {
		row := b[5*(handle-1):]
		at, length := int(row[1])+256*int(row[2]), int(row[3])+256*int(row[4])
		wantSame(t, b, replaced(b, at, b[at]+1), false, api.OK)
		wantSame(t, b, replaced(b, at+length-1, b[at+length-1]^1), false, api.OK)
	}
}

func TestNotTheSameRoots(t *testing.T) {
	b := two(320)
	for _, other := range [][]byte{
		noRoot(b, 0),
		noRoot(b, 1),
		noRoots(b),
		root(b, 2, "b", 1),
		root(b, 7, "maine", 9),
		root(b, 0, "b", 1),
		root(b, 0, "aa", 1),
		root(b, 0, "a", 9),
		root(b, 1, "main", 1),
		root(root(b, 0, "a", 9), 1, "main", 1),
		root(root(b, 0, "c", 1), 1, "d", 9),
	} {
		wantSame(t, b, other, false, api.OK)
		wantSame(t, two(6400), other, false, api.OK)
		wantSame(t, other, other, true, api.OK)
	}
}

// wrong gives images of which Check says something: one for each fault.
func wrong() [][]byte {
	b := two(320)
	return [][]byte{
		object(b, 2, 17, 310, 1),
		object(b, 2, 1, 288, 1),
		object(b, 2, 0, 310, 1),
		root(b, 5, "A", 1),
		root(b, 5, "main", 9),
		bytes.Repeat([]byte{255}, 288),
	}
}

// An image that is not right is the same as none, be it itself; ErrState is told of either side.
func TestSameOfWhatIsWrong(t *testing.T) {
	for _, b := range wrong() {
		for _, other := range append(wrong(), two(320), two(6400), make([]byte, 288), full()) {
			wantSame(t, b, other, false, api.ErrState)
		}
		for _, n := range []int{0, 1, 287, 6401} {
			wantSame(t, b, make([]byte, n), false, api.ErrShape)
		}
	}
}

func TestSameOfNil(t *testing.T) {
	for _, b := range append(wrong(), two(320), nil, make([]byte, 287), make([]byte, 6401)) {
		if same, err := check.Same(nil, b); same || plain.Told(err) != api.ErrShape {
			t.Errorf("Same of nil: got %v, %v", same, err)
		}
		if same, err := check.Same(b, nil); same || plain.Told(err) != api.ErrShape {
			t.Errorf("Same of nil behind: got %v, %v", same, err)
		}
	}
}
