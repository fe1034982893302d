package store_test

import "testing"

func TestDirtyOfNone(t *testing.T) {
	x := created(t, 60)
	x.wantDirty()
	x.some()
	x.wantDirty()
	x = openedOn(t, x.device, x.kept, 3)
	x.wantDirty()
	x.write(1, 288, 0, counted(5, 5))
	x.abort()
	x.wantDirty()
}

// A page is dirty while it differs, not since it was written to.
func TestDirtyOfAPageThatIsChangedBack(t *testing.T) {
	x := wide(t)
	x.touch(1, 15, 11)
	x.wantDirty(11, 15)
	x.touch(0, 15)
	x.wantDirty(11)
	x.touch(0, 20)
	x.wantDirty(11)
	x.touch(2, 15)
	x.commit()
	x.touch(0, 15)
	x.wantDirty(15)
	x.touch(2, 15)
	x.wantDirty()
	x.alloc(3, 1, 2, 1288)
	x.wantDirty(0)
	x.free(2)
	x.wantDirty()
}

func TestDirtyOfEachPage(t *testing.T) {
	x := wide(t)
	for i := 9; i < 40; i++ {
		x.touch(1, i)
		x.wantDirty(i)
		x.abort()
	}
	x.touch(1, 39, 20, 9, 38, 10)
	x.wantDirty(9, 10, 20, 38, 39)
}

// The pages of Head: by handles 0 to 6, by roots 6 to 8.
func TestDirtyOfHead(t *testing.T) {
	x := created(t, 60)
	for handle := 1; handle <= 40; handle++ {
		x.alloc(2, 1, handle, 286+2*handle)
		first, last := 5*(handle-1)/32, (5*handle-2)/32 // of all five bytes, but for the high one of a Len, which is 0
		if first == last {
			x.wantDirty(first)
		} else {
			x.wantDirty(first, last)
		}
		x.commit()
	}
	// A root has its name from 200 + 11 i on, and its handle ten bytes behind: those at 2 and 5 stand in two pages.
	for i, dirty := range [][]int{{6}, {6}, {6, 7}, {7}, {7}, {7, 8}, {8}, {8}} {
		x.set(i, "abcdefgh"[i:i+1], 40-i)
		x.wantDirty(dirty...)
		x.commit()
	}
}

func TestDirtyOfTheLastPage(t *testing.T) {
	for _, c := range []struct{ sectors, size, last int }{{58, 32, 9}, {60, 96, 11}, {61, 128, 12}} {
		x := created(t, c.sectors)
		x.alloc(c.size, 0, 1, 288)
		x.commit()
		x.write(1, 288, c.size-1, []byte{1})
		x.wantDirty(c.last)
		x.commit()
		x.write(1, 288, c.size-32, []byte{1})
		x.wantDirty(c.last)
		x.commit()
		x = openedOn(t, x.device, x.kept, x.stamp)
		x.wantDirty()
	}
}

// An image that is just Head has no room for objects, and so nothing that may differ.
func TestDirtyOfTheLeastImage(t *testing.T) {
	x := created(t, 57)
	if got, err := x.heap.Alloc(1, 0); err == nil {
		t.Errorf("Alloc where there is no room: got %d", got)
	}
	x.wantDirty()
	x.commit()
	x.abort()
	openedOn(t, x.device, make([]byte, 288), 2)
}

func TestStamp(t *testing.T) {
	x := wide(t)
	for c := range 6 {
		if got := x.store.Stamp(); got != 3+c {
			t.Errorf("Stamp: got %d, want %d", got, 3+c)
		}
		x.touch(byte(1+c), 10)
		x.abort()
		x.commit()
		if got := x.store.Stamp(); got != 3+c {
			t.Errorf("Stamp behind a Commit of nothing: got %d, want %d", got, 3+c)
		}
		x.touch(byte(1+c), 10)
		x.commit()
		if c%2 == 1 {
			x = openedOn(t, x.device, x.kept, x.stamp)
		}
	}
	d := holding(t, right())
	lay(t, d, map[int][]byte{1: marked(0x01020305)})
	x = openedOn(t, d, right(), 0x01020305)
	x.write(2, 298, 0, []byte{1})
	x.commit()
	if got := opened(t, d).Stamp(); got != 0x01020306 {
		t.Errorf("Stamp: got %d", got)
	}
}
