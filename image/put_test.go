package image_test

import (
	"math"
	"testing"

	"vaultkeel/api"
	"vaultkeel/image"
)

// wantIn asks that an entry is put: its five bytes, no other one; and that it is got then.
func wantIn(t *testing.T, b []byte, e api.Entry) {
	t.Helper()
	row := []byte{byte(e.Tag + 1), byte(e.Extent.At % 256), byte(e.Extent.At / 256), byte(e.Extent.Len % 256), byte(e.Extent.Len / 256)}
	wantPut(t, b, e, replaced(b, 5*(e.Handle-1), row...), api.OK)
	out, err := image.Put(b, e)
	if err != nil {
		t.Fatalf("Put of %v: %v", e, err)
	}
	wantGet(t, out, e.Handle, e, api.OK)
}

func TestPut(t *testing.T) {
	b := make([]byte, 320)
	want := make([]byte, 320)
	copy(want[5*6:], []byte{12, 44, 1, 9, 0})
	wantPut(t, b, entry(7, 11, 300, 9), want, api.OK)
	b = make([]byte, 6400)
	want = make([]byte, 6400)
	copy(want[195:], []byte{16, 24, 21, 232, 3})
	wantPut(t, b, entry(40, 15, 5400, 1000), want, api.OK)
}

func TestPutEachHandleAndTag(t *testing.T) {
	for _, b := range backgrounds(320) {
		for handle := 1; handle <= 40; handle++ {
			for tag := 0; tag <= 15; tag++ {
				wantIn(t, b, entry(handle, tag, 288+tag, handle%16+1))
			}
		}
	}
}

// Where an object ends, the last place where all of it is there, for the least and the greatest images and objects.
func TestPutAtEachEdge(t *testing.T) {
	for _, n := range lengths {
		for _, length := range []int{1, 2, 31, 32, 33, 255, 256, 999, 1000} {
			last := n - length
			for _, b := range backgrounds(n) {
				for _, at := range []int{288, 289, last - 1, last} {
					if 288 <= at && at <= last {
						wantIn(t, b, entry(3, 4, at, length))
					} else {
						wantPut(t, b, entry(3, 4, at, length), nil, api.ErrShape)
					}
				}
				for _, at := range []int{last + 1, last + 2, n, n + 1, 287, 286, 0, 1, -1} {
					if at < 288 || last < at {
						wantPut(t, b, entry(3, 4, at, length), nil, api.ErrShape)
					}
				}
			}
		}
	}
}

func TestPutAtEachPlace(t *testing.T) {
	b := laid(320)
	for at := range 340 {
		for length := 1; length <= 40; length++ {
			if at < 288 || at+length > 320 {
				wantPut(t, b, entry(40, 0, at, length), nil, api.ErrShape)
			} else {
				wantIn(t, b, entry(40, 0, at, length))
			}
		}
	}
}

// Places that come to such as may be, if they are added to a length and wrap round, or are cut to two bytes or to 32 bits.
func TestPutAtExtremes(t *testing.T) {
	for _, n := range []int{288, 289, 6400} {
		for _, at := range []int{math.MaxInt, math.MaxInt - 1, math.MaxInt - 999, math.MaxInt - 1000, math.MinInt, math.MinInt + 1, math.MinInt + 288, math.MinInt + 6400, 1<<16 + 288, 1<<16 + 300, 1<<32 + 288, 1 << 62, -1 << 62, -288, -6400} {
			for _, length := range []int{1, 2, 999, 1000} {
				wantPut(t, laid(n), entry(1, 0, at, length), nil, api.ErrShape)
			}
		}
	}
}

// faults are entries of which one number is none that may be; at and length are those of one that is there.
func faults(at, length int) (l []api.Entry) {
	for _, handle := range noHandles {
		l = append(l, entry(handle, 0, at, length))
	}
	for _, tag := range []int{-1, -2, 16, 17, 254, 255, 256, -256, 1 << 32, math.MaxInt, math.MaxInt - 1, math.MinInt} {
		l = append(l, entry(1, tag, at, length))
	}
	for _, none := range []int{0, -1, -1000, 1001, 1002, 6112, 1 << 16, 1<<16 + 1, 1<<32 + 1, math.MaxInt, math.MinInt, math.MinInt + 1} {
		l = append(l, entry(1, 0, at, none))
	}
	return l
}

func TestPutOfNumbersThatMayNotBe(t *testing.T) {
	for _, b := range backgrounds(6400) {
		for _, e := range faults(288, 1) {
			wantPut(t, b, e, nil, api.ErrRange)
		}
	}
}

func TestPutRangeComesAheadOfShape(t *testing.T) {
	for _, n := range []int{288, 6400} {
		for _, at := range []int{287, 0, -1, 6400, 6401, math.MaxInt, math.MinInt} {
			for _, e := range faults(at, 1) {
				wantPut(t, make([]byte, n), e, nil, api.ErrRange)
			}
		}
	}
	wantPut(t, make([]byte, 288), api.Entry{}, nil, api.ErrRange)
	wantPut(t, make([]byte, 320), entry(1, 0, 288, 1000), nil, api.ErrShape)
	wantPut(t, make([]byte, 320), entry(1, 0, 288, 1001), nil, api.ErrRange)
}

// Put looks at nothing but the length: one may be over another, or in place of one that was.
func TestPutWhateverStandsThere(t *testing.T) {
	b := make([]byte, 320)
	for _, e := range []api.Entry{entry(1, 0, 288, 32), entry(2, 15, 288, 32), entry(2, 3, 300, 20), entry(40, 1, 319, 1), entry(1, 7, 290, 2)} {
		wantIn(t, b, e)
		b, _ = image.Put(b, e)
	}
	wantEntries(t, b, api.OK, entry(1, 7, 290, 2), entry(2, 3, 300, 20), entry(40, 1, 319, 1))
}

func TestPutAll(t *testing.T) {
	b := make([]byte, 6400)
	var want []api.Entry
	for handle := 40; handle >= 1; handle-- {
		e := entry(handle, handle%16, 6400-150*handle, 150)
		out, err := image.Put(b, e)
		if err != nil {
			t.Fatalf("Put of %v: %v", e, err)
		}
		b, want = out, append([]api.Entry{e}, want...)
	}
	wantEntries(t, b, api.OK, want...)
}

func TestDrop(t *testing.T) {
	for _, n := range lengths {
		b := laid(n)
		for handle := 1; handle <= 40; handle++ {
			wantDrop(t, b, handle, replaced(b, 5*(handle-1), 0, 0, 0, 0, 0), api.OK)
			out, err := image.Drop(b, handle)
			if err != nil {
				t.Fatalf("Drop of %d: %v", handle, err)
			}
			wantGet(t, out, handle, api.Entry{}, api.ErrNone)
			wantDrop(t, out, handle, nil, api.ErrNone)
		}
	}
}

func TestDropOfHandlesThatAreNone(t *testing.T) {
	for _, n := range lengths {
		for _, b := range backgrounds(n) {
			for _, handle := range noHandles {
				wantDrop(t, b, handle, nil, api.ErrRange)
			}
		}
	}
}

func TestDropNone(t *testing.T) {
	for handle := 1; handle <= 40; handle++ {
		for _, b := range backgrounds(288) {
			wantDrop(t, replaced(b, 5*(handle-1), 0), handle, nil, api.ErrNone)
			wantDrop(t, replaced(b, 5*(handle-1), 0, 255, 255, 255, 255), handle, nil, api.ErrNone)
		}
	}
}

// Such as are not right are dropped like others.
func TestDropAsItStands(t *testing.T) {
	for _, row := range [][]byte{{1, 0, 0, 0, 0}, {255, 255, 255, 255, 255}, {17, 0, 0, 1, 0}, {1, 31, 1, 233, 3}} {
		wantDrop(t, replaced(make([]byte, 288), 195, row...), 40, make([]byte, 288), api.OK)
	}
}

// A root that leads to it stays, and so do its bytes.
func TestDropWhatRootsLeadTo(t *testing.T) {
	b := make([]byte, 320)
	copy(b[200:], "main")
	copy(b[288:], "bytes")
	b[210] = 1
	in, _ := image.Put(b, entry(1, 2, 288, 5))
	wantDrop(t, in, 1, b, api.OK)
	wantRoots(t, b, api.OK, api.Root{Name: "main", Handle: 1})
}
