package check_test

import (
	"bytes"
	"testing"

	"vaultkeel/api"
	"vaultkeel/check"
	"vaultkeel/plain"
)

// wantNoImage asks each call of bytes that are no image.
func wantNoImage(t *testing.T, b []byte) {
	t.Helper()
	unchanged(t, "a call", b, func(part []byte) {
		if b == nil {
			part = nil
		}
		if l, err := check.Check(part); plain.Told(err) != api.ErrShape || len(l) != 0 {
			t.Errorf("Check of %d bytes: got %v, %v", len(b), l, err)
		}
		if out, err := check.Mend(part); plain.Told(err) != api.ErrShape || len(out) != 0 {
			t.Errorf("Mend of %d bytes: got %d bytes, %v", len(b), len(out), err)
		}
	})
	wrong := bytes.Repeat([]byte{255}, 300)
	for _, other := range [][]byte{make([]byte, 288), some(), full(), wrong, nil, {}, make([]byte, 287), make([]byte, 6401), b} {
		wantSame(t, b, other, false, api.ErrShape)
	}
}

func TestBytesThatAreNoImage(t *testing.T) {
	for _, n := range []int{0, 1, 5, 199, 200, 287, 6401, 6402, 1<<16 + 288} {
		wantNoImage(t, make([]byte, n))
		wantNoImage(t, bytes.Repeat([]byte{255}, n))
	}
	wantNoImage(t, nil)
}

// What stands behind the length does not make an image.
func TestBytesBehindTheLengthAreNone(t *testing.T) {
	b := some()
	wantNoImage(t, b[:287])
	wantOnly(t, b[:399], stray(40), bad(1))
}

func TestNothingIsRight(t *testing.T) {
	for _, n := range lengths {
		wantRight(t, make([]byte, n))
		wantRight(t, laid(n))
	}
}

func TestOneObjectIsRight(t *testing.T) {
	for handle := 1; handle <= 40; handle++ {
		b := object(laid(320), handle, 3, 300, 9)
		wantRight(t, b)
		wantRight(t, root(b, handle%8, "main", handle))
	}
}

func TestAllObjectsAreRight(t *testing.T) {
	wantRight(t, some())
	wantRight(t, full())
	least := laid(328)
	for handle := 1; handle <= 40; handle++ {
		least = object(least, handle, 1, 287+handle, 1)
	}
	wantRight(t, least)
	wantRight(t, object(laid(1288), 40, 16, 288, 1000))
}

// Each number by which one is Stray, with all others, for the least, the greatest and other images.
func TestStray(t *testing.T) {
	for _, n := range lengths {
		for _, length := range []int{0, 1, 2, 255, 256, 999, 1000, 1001, 1256, 65_535} {
			for _, at := range []int{0, 1, 32, 255, 286, 287, 288, 289, n - length - 1, n - length, n - length + 1, n - 1, n, n + 1, 65_535} {
				if at < 0 || at > 65_535 {
					continue
				}
				for _, first := range []int{1, 2, 15, 16, 17, 18, 128, 255} {
					b := object(laid(n), 9, first, at, length)
					if 288 <= at && 1 <= length && length <= 1000 && at+length <= n && first <= 16 {
						wantFaults(t, b)
					} else {
						wantFaults(t, b, stray(9))
					}
				}
			}
		}
	}
}

func TestStrayByOneNumber(t *testing.T) {
	b := laid(1320)
	for _, handle := range []int{1, 2, 20, 39, 40} {
		wantRight(t, object(b, handle, 1, 288, 1))
		wantRight(t, object(b, handle, 16, 288, 1000))
		wantRight(t, object(b, handle, 16, 320, 1000))
		wantRight(t, object(b, handle, 1, 1319, 1))
		wantOnly(t, object(b, handle, 1, 287, 1), stray(handle))
		wantOnly(t, object(b, handle, 1, 321, 1000), stray(handle))
		wantOnly(t, object(b, handle, 1, 1320, 1), stray(handle))
		wantOnly(t, object(b, handle, 1, 65_535, 1), stray(handle))
		wantOnly(t, object(b, handle, 1, 288, 0), stray(handle))
		wantOnly(t, object(b, handle, 1, 288, 1001), stray(handle))
		wantOnly(t, object(b, handle, 17, 288, 1), stray(handle))
		wantOnly(t, object(b, handle, 255, 288, 1), stray(handle))
		wantOnly(t, object(b, handle, 1, 0, 0), stray(handle))
	}
}

// Two extents, and whether they have a byte in common; the greater handle is the one that is told.
func TestOver(t *testing.T) {
	for _, two := range []struct {
		at, length int
		over       bool
	}{
		{290, 10, false}, {290, 11, true}, {299, 1, false}, {299, 2, true}, {300, 1, true}, {300, 10, true}, {300, 9, true}, {300, 11, true}, {299, 12, true},
		{303, 2, true}, {309, 1, true}, {309, 5, true}, {310, 1, false}, {310, 10, false}, {311, 3, false}, {288, 112, true}, {288, 12, false}, {288, 13, true},
	} {
		for _, handles := range [][2]int{{1, 2}, {1, 40}, {17, 18}, {39, 40}} {
			for _, which := range [][2]int{{0, 1}, {1, 0}} {
				b := object(laid(400), handles[which[0]], 1, 300, 10)
				b = object(b, handles[which[1]], 9, two.at, two.length)
				if two.over {
					wantOnly(t, b, over(handles[1]))
				} else {
					wantRight(t, b)
				}
			}
		}
	}
}

func TestOverEachPlace(t *testing.T) {
	b := object(laid(320), 5, 1, 300, 6)
	for at := 288; at < 320; at++ {
		for length := 1; at+length <= 320; length++ {
			two := object(b, 6, 1, at, length)
			if at < 306 && 300 < at+length {
				wantFaults(t, two, over(6))
			} else {
				wantFaults(t, two)
			}
		}
	}
}

// One that is Stray has no bytes that another one could be over, whichever way it is Stray.
func TestOverOneThatIsStray(t *testing.T) {
	for _, b := range [][]byte{
		object(laid(6400), 3, 17, 300, 10),
		object(laid(6400), 3, 1, 287, 20),
		object(laid(6400), 3, 1, 0, 1000),
		object(laid(6400), 3, 1, 288, 1001),
		object(laid(6400), 3, 1, 300, 0),
		object(laid(6400), 3, 1, 288, 6112),
		object(laid(6400), 3, 255, 300, 65_535),
	} {
		wantOnly(t, object(b, 4, 2, 300, 10), stray(3))
		wantOnly(t, object(object(b, 4, 2, 300, 10), 40, 2, 309, 1), stray(3), over(40))
		wantOnly(t, object(b, 2, 2, 300, 10), stray(3))
	}
}

// One that is Over has its bytes: one behind may be over it alone.
func TestOverOneThatIsOver(t *testing.T) {
	b := object(laid(400), 1, 1, 300, 10)
	b = object(b, 2, 1, 305, 10)
	b = object(b, 3, 1, 312, 10)
	wantOnly(t, b, over(2), over(3))
	wantOnly(t, object(b, 4, 1, 322, 1), over(2), over(3))
	wantOnly(t, noHandle(b, 1), over(3))
	wantRight(t, noHandle(b, 2))
	chain := laid(400)
	var want []api.Fault
	for handle := 1; handle <= 40; handle++ {
		chain = object(chain, handle, 1, 288+2*handle, 3)
		if handle > 1 {
			want = append(want, over(handle))
		}
	}
	wantOnly(t, chain, want...)
}

// One is Over once, over however many it is; those of greater handles do not make it Over.
func TestOverMany(t *testing.T) {
	b := object(laid(400), 4, 1, 288, 112)
	wantOnly(t, object(object(object(b, 5, 1, 300, 1), 6, 1, 301, 1), 40, 1, 302, 1), over(5), over(6), over(40))
	wantOnly(t, object(object(object(b, 1, 1, 300, 1), 2, 1, 301, 1), 3, 1, 302, 1), over(4))
	wantOnly(t, object(object(b, 1, 1, 300, 1), 40, 1, 301, 1), over(4), over(40))
	same := laid(400)
	var want []api.Fault
	for handle := 1; handle <= 40; handle++ {
		same = object(same, handle, 16, 399, 1)
		if handle > 1 {
			want = append(want, over(handle))
		}
	}
	wantOnly(t, same, want...)
}

// Of one that is Stray and over another one that alone is told.
func TestStrayComesAheadOfOver(t *testing.T) {
	b := object(laid(6400), 1, 1, 288, 1000)
	for _, two := range [][]byte{
		object(b, 2, 17, 288, 1000),
		object(b, 2, 1, 287, 1000),
		object(b, 2, 1, 288, 1001),
		object(b, 2, 1, 300, 6101),
		object(b, 2, 1, 300, 0),
	} {
		wantOnly(t, two, stray(2))
	}
}

// A handle that is none, whose At or Len is not 0: each byte of the four by itself, and together.
func TestEmpty(t *testing.T) {
	for handle := 1; handle <= 40; handle++ {
		for k := 1; k <= 4; k++ {
			for _, c := range []byte{1, 128, 255} {
				wantOnly(t, replaced(laid(320), 5*(handle-1)+k, c), none(handle))
			}
		}
		wantOnly(t, object(laid(320), handle, 0, 288, 0), none(handle))
		wantOnly(t, object(laid(320), handle, 0, 0, 1), none(handle))
		wantOnly(t, object(laid(320), handle, 0, 300, 9), none(handle))
		wantOnly(t, object(laid(320), handle, 0, 65_535, 65_535), none(handle))
		wantRight(t, object(laid(320), handle, 0, 0, 0))
	}
}

// One that is none has no bytes: neither is it over another one, nor another one over it.
func TestEmptyIsNotOver(t *testing.T) {
	b := object(laid(400), 5, 0, 300, 10)
	wantOnly(t, object(b, 6, 1, 300, 10), none(5))
	wantOnly(t, object(b, 4, 1, 300, 10), none(5))
}

func TestFaultsHandleByHandleThenRootByRoot(t *testing.T) {
	b := object(laid(400), 2, 1, 300, 50)
	b = object(b, 3, 0, 1, 0)
	b = object(b, 5, 1, 340, 11)
	b = object(b, 6, 17, 300, 1)
	b = object(b, 8, 1, 350, 1)
	b = object(b, 9, 1, 360, 1)
	b = object(b, 39, 0, 0, 1)
	b = object(b, 40, 1, 399, 2)
	b = root(b, 0, "A", 2)
	b = root(b, 1, "a", 2)
	b = root(b, 2, "a", 5)
	b = root(b, 4, "a", 9)
	b = root(b, 5, "b", 9)
	b = root(b, 6, "c", 40)
	b = root(b, 7, "b", 2)
	wantOnly(t, b, none(3), over(5), stray(6), over(8), none(39), stray(40), bad(0), bad(2), twice(4), bad(6), twice(7))
}

func TestAllIsWrong(t *testing.T) {
	for _, n := range lengths {
		b := bytes.Repeat([]byte{255}, n)
		var want []api.Fault
		for handle := 1; handle <= 40; handle++ {
			want = append(want, stray(handle))
		}
		for i := range 8 {
			want = append(want, bad(i))
		}
		wantOnly(t, b, want...)
		mended, _ := check.Mend(b)
		wantSame(t, mended, make([]byte, 288), true, api.OK)
	}
}
