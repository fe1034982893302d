package old_test

import (
	"bytes"
	"slices"
	"testing"

	"vaultkeel/old"
)

var begin = []byte{79, 76, 68, 49}

// wantVersion asks Version, and that it writes not into what it is given.
func wantVersion(t *testing.T, b []byte, want int) {
	t.Helper()
	part, whole := around(b)
	before := slices.Clone(whole)
	if got := old.Version(part); got != want {
		t.Errorf("Version of % x (%d bytes): got %d, want %d", head(b), len(b), got, want)
	}
	if !bytes.Equal(whole, before) {
		t.Error("Version wrote into what it was given")
	}
}

func TestVersionOfOld(t *testing.T) {
	wantVersion(t, begin, 1)
	wantVersion(t, once(nil, nil), 1)
	wantVersion(t, once(some()), 1)
	wantVersion(t, once(many()), 1)
	for c := range 256 {
		wantVersion(t, append(slices.Clone(begin), byte(c)), 1)
	}
	for _, n := range []int{5, 6, 287, 288, 289, 400, 6399, 6400, 6401, 70_000} { // right or not, and whatever its length
		wantVersion(t, replaced(make([]byte, n), 0, begin...), 1)
		wantVersion(t, replaced(stuff(n, 5), 0, begin...), 1)
	}
}

func TestVersionOfNow(t *testing.T) {
	for _, n := range []int{288, 289, 320, 1000, 6399, 6400} {
		wantVersion(t, make([]byte, n), 2)
		wantVersion(t, bytes.Repeat([]byte{255}, n), 2) // its length alone is asked
		wantVersion(t, replaced(make([]byte, n), n-4, begin...), 2)
		wantVersion(t, replaced(make([]byte, n), 1, begin...), 2)
		for at := range 4 {
			for c := range 256 {
				if byte(c) != begin[at] {
					wantVersion(t, replaced(replaced(make([]byte, n), 0, begin...), at, byte(c)), 2)
				}
			}
		}
	}
	wantVersion(t, now(some()), 2)
	wantVersion(t, now(many()), 2)
}

func TestVersionOfEachLength(t *testing.T) {
	for n := range 7000 {
		want := 0
		if 288 <= n && n <= 6400 {
			want = 2
		}
		if got := old.Version(make([]byte, n)); got != want {
			t.Errorf("Version of %d zeros: got %d, want %d", n, got, want)
		}
	}
}

func TestVersionOfOthers(t *testing.T) {
	wantVersion(t, nil, 0)
	wantVersion(t, []byte{}, 0)
	if got := old.Version(nil); got != 0 {
		t.Errorf("Version of nil: got %d", got)
	}
	for n := range 4 {
		wantVersion(t, begin[:n], 0)
		if got := old.Version(begin[:n]); got != 0 { // what lacks stands right behind it in memory
			t.Errorf("Version of %d bytes: got %d", n, got)
		}
	}
	for _, n := range []int{1, 4, 5, 200, 287, 6401, 6402, 1 << 16, 1<<16 + 288} {
		wantVersion(t, make([]byte, n), 0)
		wantVersion(t, stuff(n, 3), 0)
	}
	for at := range 4 {
		for _, n := range []int{4, 6, 287, 6401} {
			b := replaced(make([]byte, n), 0, begin...)
			wantVersion(t, replaced(b, at, b[at]+1), 0)
			wantVersion(t, replaced(b, at, b[at]^32), 0)
		}
	}
	wantVersion(t, []byte("old1"), 0)
	wantVersion(t, []byte(" OLD1"), 0)
}
