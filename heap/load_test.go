package heap_test

import (
	"bytes"
	"math"
	"testing"

	"vaultkeel/api"
	"vaultkeel/heap"
	"vaultkeel/image"
	"vaultkeel/plain"
)

func TestNewHasNothing(t *testing.T) {
	for _, n := range []int{288, 289, 320, 1288, 6399, 6400} {
		s := newBench(t, n)
		for handle := 1; handle <= 40; handle++ {
			s.nothing(handle, api.ErrNone)
		}
		roots, err := image.Roots(s.heap.Bytes())
		if len(roots) != 0 || err != nil {
			t.Errorf("New(%d) has the roots %v, %v", n, roots, err)
		}
	}
}

func TestNewOfNoLength(t *testing.T) {
	for _, n := range []int{287, 6401, 0, -1, 1, -288, 200, 1<<16 + 288, 1<<32 + 288, math.MaxInt, math.MinInt, math.MinInt + 288} {
		if h, err := heap.New(n); h != nil || plain.Told(err) != api.ErrRange {
			t.Errorf("New(%d): got %v, %v; want none, ErrRange", n, h != nil, err)
		}
	}
}

func TestNewOnesDoNotTouchEachOther(t *testing.T) {
	a, b := newBench(t, 400), newBench(t, 400)
	a.alloc(9, 3, 1, 288)
	a.write(1, 288, 2, counted(1, 7))
	b.want("calls on another one")
	b.alloc(4, 1, 1, 288)
	a.want("calls on another one")
}

func TestLoadOfNoLength(t *testing.T) {
	for _, n := range []int{0, 1, 5, 199, 200, 287, 6401, 6402, 12800} {
		wantNoLoad(t, make([]byte, n), api.ErrShape)
		wantNoLoad(t, bytes.Repeat([]byte{7}, n), api.ErrShape) // no right image either: the length is told first
	}
	wantNoLoad(t, nil, api.ErrShape)
	wantNoLoad(t, full()[:6399], api.ErrState) // of a length that images have, but the last object is not all there
}

func TestLoadOfAnImageThatIsNotRight(t *testing.T) {
	empty := laid(400)
	for name, b := range map[string][]byte{
		"Stray, ahead of Head":            object(empty, 1, 1, 287, 9),
		"Stray, beyond the end":           object(empty, 40, 1, 392, 9),
		"Stray, of no bytes":              object(empty, 3, 1, 300, 0),
		"Stray, of too many":              object(laid(6400), 3, 1, 300, 1001),
		"Stray, of a tag above 16":        object(empty, 3, 17, 300, 5),
		"Over":                            object(object(empty, 1, 1, 300, 9), 2, 1, 308, 3),
		"Over, the same bytes":            object(object(empty, 39, 1, 300, 9), 40, 1, 300, 9),
		"Empty, At":                       object(empty, 1, 0, 1, 0),
		"Empty, Len":                      object(empty, 40, 0, 0, 256),
		"Bad, of no object":               root(empty, 0, "main", 1),
		"Bad, of another object":          root(object(empty, 2, 1, 300, 9), 7, "main", 1),
		"Bad, of handle 0":                root(empty, 0, "main", 0),
		"Bad, of no name":                 root(object(empty, 2, 1, 300, 9), 7, "", 2),
		"Bad, of a name that is none":     root(object(empty, 2, 1, 300, 9), 0, "A", 2),
		"Bad, with a byte between":        replaced(root(object(empty, 2, 1, 300, 9), 0, "a", 2), 208, 1),
		"Twice":                           root(root(object(empty, 2, 1, 300, 9), 0, "a", 2), 7, "a", 2),
		"right, but for the last root":    replaced(full(), 287, 41),
		"right, but for the first object": replaced(full(), 0, 0),
	} {
		t.Run(name, func(t *testing.T) { wantNoLoad(t, b, api.ErrState) })
	}
}

func TestLoadHasTheObjects(t *testing.T) {
	s := benchOf(t, some())
	b := some()
	for _, o := range []struct{ handle, tag, at, size int }{{2, 0, 330, 20}, {7, 15, 289, 40}, {40, 4, 351, 49}} {
		s.tag(o.handle, o.tag)
		s.size(o.handle, o.size)
		s.read(o.handle, 0, b[o.at:o.at+o.size])
	}
	for handle := 1; handle <= 40; handle++ {
		if handle != 2 && handle != 7 && handle != 40 {
			s.nothing(handle, api.ErrNone)
		}
	}
}

func TestLoadOfAFullOne(t *testing.T) {
	s := benchOf(t, full())
	b := full()
	for handle := 1; handle <= 40; handle++ {
		at := int(b[5*handle-4]) + 256*int(b[5*handle-3])
		n := int(b[5*handle-2]) + 256*int(b[5*handle-1])
		s.tag(handle, handle%16)
		s.size(handle, n)
		s.read(handle, 0, b[at:at+n])
	}
}

func TestLoadOfOneWithNothing(t *testing.T) {
	for _, n := range []int{288, 289, 6400} {
		s := benchOf(t, laid(n)) // bytes that nobody has are nobody's fault, and stay
		for handle := 1; handle <= 40; handle++ {
			s.nothing(handle, api.ErrNone)
		}
	}
}

func TestTwoOfTheSameBytesDoNotTouchEachOther(t *testing.T) {
	given := some()
	one, err := heap.Load(given)
	if err != nil {
		t.Fatal(err)
	}
	two, err := heap.Load(given)
	if err != nil {
		t.Fatal(err)
	}
	a, b := &bench{t: t, heap: one, now: some()}, &bench{t: t, heap: two, now: some()}
	a.write(2, 330, 0, counted(50, 20))
	b.want("Write to another one")
	b.free(7)
	a.want("Free in another one")
	b.alloc(41, 3, 1, 288)
	a.want("Alloc in another one")
	a.alloc(1, 2, 1, 288)
	b.want("Alloc in another one")
	if !bytes.Equal(given, some()) {
		t.Error("what Load was given is written into by a later call")
	}
}

func TestLoadOfWhatBytesGave(t *testing.T) {
	s := newBench(t, 400)
	s.alloc(10, 3, 1, 288)
	s.alloc(20, 15, 2, 298)
	s.write(2, 298, 5, counted(9, 15))
	s.free(1)
	again := benchOf(t, s.heap.Bytes())
	again.nothing(1, api.ErrNone)
	again.tag(2, 15)
	again.size(2, 20)
	again.read(2, 0, append(make([]byte, 5), counted(9, 15)...))
	again.alloc(10, 1, 1, 288)
	s.want("calls on one that was loaded of what Bytes gave")
}
