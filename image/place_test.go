package image_test

import (
	"math"
	"testing"

	"vaultkeel/api"
	"vaultkeel/image"
	"vaultkeel/plain"
)

func TestOfHandle(t *testing.T) {
	for handle := 1; handle <= 40; handle++ {
		if got := image.OfHandle(handle); got != (api.Extent{At: 5 * (handle - 1), Len: 5}) {
			t.Errorf("OfHandle(%d): got %v", handle, got)
		}
	}
	for _, handle := range noHandles {
		if got := image.OfHandle(handle); got != (api.Extent{}) {
			t.Errorf("OfHandle(%d): got %v, want none", handle, got)
		}
	}
}

func TestOfRoot(t *testing.T) {
	for i := range 8 {
		if got := image.OfRoot(i); got != (api.Extent{At: 200 + 11*i, Len: 11}) {
			t.Errorf("OfRoot(%d): got %v", i, got)
		}
	}
	for _, i := range []int{-1, 8, 9, -8, 256, 1 << 32, math.MaxInt, math.MinInt} {
		if got := image.OfRoot(i); got != (api.Extent{}) {
			t.Errorf("OfRoot(%d): got %v, want none", i, got)
		}
	}
}

func wantEntryTold(t *testing.T, n int, e api.Entry, told api.Errno) {
	t.Helper()
	if err := image.CheckEntry(n, e); plain.Told(err) != told {
		t.Errorf("CheckEntry of %d, %v: got %v, want %v", n, e, err, told)
	}
}

// What may be put is told without an image, by its length alone.
func TestCheckEntry(t *testing.T) {
	for _, n := range []int{288, 320, 6400} {
		wantEntryTold(t, n, entry(1, 0, n-1, 1), onlyIf(n > 288, api.ErrShape))
		wantEntryTold(t, n, entry(40, 15, n-1000, 1000), onlyIf(n-1000 >= 288, api.ErrShape))
		wantEntryTold(t, n, entry(1, 0, n, 1), api.ErrShape)
		for _, at := range []int{287, 288, math.MaxInt, math.MinInt} {
			for _, e := range faults(at, 1) {
				wantEntryTold(t, n, e, api.ErrRange)
			}
		}
	}
	for _, n := range []int{0, -1, 287, 6401, math.MaxInt, math.MinInt} {
		wantEntryTold(t, n, entry(1, 0, 288, 1), api.ErrShape)
		wantEntryTold(t, n, api.Entry{}, api.ErrShape)
	}
}

// onlyIf gives OK if something is so, else an error.
func onlyIf(is bool, told api.Errno) api.Errno {
	if is {
		return api.OK
	}
	return told
}
