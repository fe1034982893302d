package image_test

import (
	"bytes"
	"math"
	"slices"
	"testing"

	"vaultkeel/api"
	"vaultkeel/image"
	"vaultkeel/plain"
)

func TestNew(t *testing.T) {
	for _, n := range []int{288, 289, 320, 6399, 6400} {
		b, err := image.New(n)
		if err != nil || !bytes.Equal(b, make([]byte, n)) {
			t.Errorf("New(%d): got %d bytes, %v", n, len(b), err)
		}
		wantEntries(t, b, api.OK)
		wantRoots(t, b, api.OK)
	}
}

func TestNewOfOtherLengths(t *testing.T) {
	for _, n := range []int{-1, 0, 1, 200, 287, 6401, 6402, -288, -6400, 1 << 32, 1<<32 + 288, math.MaxInt, math.MinInt, math.MinInt + 288} {
		if b, err := image.New(n); plain.Told(err) != api.ErrRange || len(b) != 0 {
			t.Errorf("New(%d): got %d bytes, %v; want ErrRange", n, len(b), err)
		}
	}
}

func TestNewIsFresh(t *testing.T) {
	one, _ := image.New(288)
	two, _ := image.New(288)
	fill(one[:cap(one)], 7)
	three, _ := image.New(288)
	if !bytes.Equal(two, make([]byte, 288)) || !bytes.Equal(three, make([]byte, 288)) {
		t.Error("two answers of New share memory")
	}
}

// wantNoImage asks each call, with what is right and what is wrong beside it, for ErrShape.
func wantNoImage(t *testing.T, b []byte) {
	t.Helper()
	wantEntries(t, b, api.ErrShape)
	wantRoots(t, b, api.ErrShape)
	for _, handle := range slices.Concat([]int{1, 2, 40}, noHandles) {
		wantGet(t, b, handle, api.Entry{}, api.ErrShape)
		wantDrop(t, b, handle, nil, api.ErrShape)
	}
	for _, e := range []api.Entry{entry(1, 0, 288, 1), entry(0, 0, 288, 1), entry(41, 0, 288, 1), entry(1, -1, 288, 1), entry(1, 16, 288, 1), entry(1, 0, 288, 0), entry(1, 0, 288, 1001), entry(1, 0, 287, 1), entry(1, 0, math.MaxInt, 1), {}} {
		wantPut(t, b, e, nil, api.ErrShape)
	}
	for _, i := range []int{0, 7, -1, 8, math.MaxInt, math.MinInt} {
		for _, r := range []api.Root{{Name: "a", Handle: 1}, {}, {Name: "a"}, {Handle: 1}, {Name: "A", Handle: 1}, {Name: "a", Handle: 41}} {
			wantPutRoot(t, b, i, r, nil, api.ErrShape)
		}
	}
}

func TestBytesThatAreNoImage(t *testing.T) {
	for _, n := range []int{0, 1, 5, 199, 200, 287, 6401, 6402, 1<<16 + 288} {
		wantNoImage(t, make([]byte, n))
		wantNoImage(t, laid(n))
	}
}

func TestNilIsNoImage(t *testing.T) {
	l, err := image.Entries(nil)
	r, bad := image.Roots(nil)
	e, ill := image.Get(nil, 1)
	b, no := image.Put(nil, entry(1, 0, 288, 1))
	c, not := image.Drop(nil, 1)
	d, never := image.PutRoot(nil, 0, api.Root{})
	for i, err := range []error{err, bad, ill, no, not, never} {
		if plain.Told(err) != api.ErrShape {
			t.Errorf("call %d of nil: got %v, want ErrShape", i, err)
		}
	}
	if len(l)+len(r)+len(b)+len(c)+len(d) != 0 || e != (api.Entry{}) {
		t.Errorf("of nil came: %v %v %v %v %v %v", l, r, e, b, c, d)
	}
}

// ErrShape hangs on the length alone: an image may have whatever bytes there are.
func TestBytesThatAreAnImage(t *testing.T) {
	for _, n := range lengths {
		for _, b := range backgrounds(n) {
			if _, err := image.Entries(b); err != nil {
				t.Errorf("Entries of %d bytes: %v", n, err)
			}
			if _, err := image.Roots(b); err != nil {
				t.Errorf("Roots of %d bytes: %v", n, err)
			}
			wantPutRoot(t, b, 0, api.Root{}, replaced(b, 200, make([]byte, 11)...), api.OK)
		}
	}
}

func TestGet(t *testing.T) {
	b := make([]byte, 320)
	copy(b, []byte{3, 32, 1, 9, 0, 4, 41, 1, 5, 0})
	copy(b[195:], []byte{16, 46, 1, 18, 0})
	wantGet(t, b, 1, entry(1, 2, 288, 9), api.OK)
	wantGet(t, b, 2, entry(2, 3, 297, 5), api.OK)
	wantGet(t, b, 40, entry(40, 15, 302, 18), api.OK)
	for handle := 3; handle < 40; handle++ {
		wantGet(t, b, handle, api.Entry{}, api.ErrNone)
	}
}

func TestGetOfHandlesThatAreNone(t *testing.T) {
	for _, n := range lengths {
		for _, b := range backgrounds(n) {
			for _, handle := range noHandles {
				wantGet(t, b, handle, api.Entry{}, api.ErrRange)
			}
		}
	}
}

func TestGetOfEachHandle(t *testing.T) {
	for _, n := range []int{288, 6400} {
		b := laid(n)
		for handle := 1; handle <= 40; handle++ {
			row := b[5*(handle-1):]
			want := entry(handle, int(row[0])-1, int(row[1])+256*int(row[2]), int(row[3])+256*int(row[4]))
			wantGet(t, b, handle, want, api.OK)
		}
	}
}

// There is none where the first byte is 0, whatever the other four are, and whatever stands about.
func TestGetNone(t *testing.T) {
	for handle := 1; handle <= 40; handle++ {
		at := 5 * (handle - 1)
		for _, b := range backgrounds(288) {
			wantGet(t, replaced(b, at, 0), handle, api.Entry{}, api.ErrNone)
			wantGet(t, replaced(b, at, 0, 32, 1, 1, 0), handle, api.Entry{}, api.ErrNone)
			wantGet(t, replaced(b, at, 0, 255, 255, 255, 255), handle, api.Entry{}, api.ErrNone)
			wantGet(t, replaced(b, at, 0, 0, 0, 0, 0), handle, api.Entry{}, api.ErrNone)
		}
	}
}

func TestGetAsItStands(t *testing.T) {
	numbers := []int{0, 1, 255, 256, 287, 288, 1000, 1001, 6400, 65_535}
	b := make([]byte, 288)
	for _, handle := range []int{1, 2, 20, 39, 40} {
		for _, first := range []int{1, 2, 16, 17, 128, 254, 255} {
			for _, at := range numbers {
				for _, length := range numbers {
					put := replaced(b, 5*(handle-1), byte(first), byte(at%256), byte(at/256), byte(length%256), byte(length/256))
					wantGet(t, put, handle, entry(handle, first-1, at, length), api.OK)
				}
			}
		}
	}
}

func TestGetOfEachFirstByte(t *testing.T) {
	for first := 1; first <= 255; first++ {
		wantGet(t, replaced(make([]byte, 288), 195, byte(first)), 40, entry(40, first-1, 0, 0), api.OK)
	}
}

func TestNoEntries(t *testing.T) {
	for _, n := range lengths {
		b := laid(n)
		for handle := 1; handle <= 40; handle++ {
			b[5*(handle-1)] = 0
		}
		wantEntries(t, b, api.OK)
		wantEntries(t, make([]byte, n), api.OK)
	}
}

func TestAllEntries(t *testing.T) {
	for _, n := range lengths {
		b := make([]byte, n)
		var want []api.Entry
		for handle := 1; handle <= 40; handle++ {
			copy(b[5*(handle-1):], []byte{byte(1 + handle%16), byte(32 + handle), 1, byte(handle), 0})
			want = append(want, entry(handle, handle%16, 288+handle, handle))
		}
		wantEntries(t, b, api.OK, want...)
	}
}

// Some entries, of which those of a lesser handle stand behind.
func TestSomeEntries(t *testing.T) {
	b := make([]byte, 400)
	copy(b[5*6:], []byte{1, 100, 1, 9, 0})
	copy(b[5*7:], []byte{0, 90, 1, 9, 0})
	copy(b[5*8:], []byte{16, 50, 1, 7, 0})
	copy(b[5*39:], []byte{2, 32, 1, 5, 0})
	wantEntries(t, b, api.OK, entry(7, 0, 356, 9), entry(9, 15, 306, 7), entry(40, 1, 288, 5))
	for handle := 1; handle <= 40; handle++ {
		one := replaced(make([]byte, 288), 5*(handle-1), 5, 6, 7, 8, 9)
		wantEntries(t, one, api.OK, entry(handle, 4, 6+7*256, 8+9*256))
	}
}

func TestEntriesAsTheyStand(t *testing.T) {
	b := make([]byte, 288)
	copy(b, []byte{255, 255, 255, 255, 255, 17, 0, 0, 0, 0, 1, 31, 1, 232, 3, 1, 31, 1, 233, 3, 0, 9, 9, 9, 9})
	wantEntries(t, b, api.OK, entry(1, 254, 65_535, 65_535), entry(2, 16, 0, 0), entry(3, 0, 287, 1000), entry(4, 0, 287, 1001))
}

// Entries and Get tell the same, whatever bytes stand there.
func TestEntriesAreThoseOfGet(t *testing.T) {
	for _, n := range lengths {
		for _, b := range backgrounds(n) {
			var want []api.Entry
			for handle := 1; handle <= 40; handle++ {
				e, err := image.Get(b, handle)
				if is := b[5*(handle-1)] != 0; is != (err == nil) {
					t.Errorf("Get of %d, whose first byte is %d: %v", handle, b[5*(handle-1)], err)
				}
				if err == nil {
					want = append(want, e)
				}
			}
			wantEntries(t, b, api.OK, want...)
		}
	}
}

// What stands in the bytes of roots and of objects is none of the handles'.
func TestEntriesHangOnTheirBytesAlone(t *testing.T) {
	b := make([]byte, 6400)
	fill(b[200:], 255)
	wantEntries(t, b, api.OK)
	for handle := 1; handle <= 40; handle++ {
		wantGet(t, b, handle, api.Entry{}, api.ErrNone)
	}
}

func TestListsAreFresh(t *testing.T) {
	b := laid(288)
	l, _ := image.Entries(b)
	r, _ := image.Roots(b)
	wantL, wantR := slices.Clone(l), slices.Clone(r)
	l2, _ := image.Entries(b)
	r2, _ := image.Roots(b)
	clear(l[:cap(l)])
	clear(r[:cap(r)])
	clear(b)
	if !slices.Equal(l2, wantL) || !slices.Equal(r2, wantR) {
		t.Error("two answers share memory, or share some with the image")
	}
	named := replaced(b, 200, 'm', 'a', 'i', 'n')
	r, _ = image.Roots(named)
	clear(named)
	if len(r) != 1 || r[0].Name != "main" {
		t.Errorf("a name changed with the image that it is from: %v", r)
	}
}
