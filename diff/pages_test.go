package diff_test

import (
	"math"
	"math/rand"
	"slices"
	"testing"

	"vaultkeel/api"
	"vaultkeel/diff"
)

// to gives a change to n bytes from at on.
func to(at, n int) api.Change {
	return api.Change{At: at, Old: make([]byte, n), New: slices.Repeat([]byte{1}, n)}
}

func TestPages(t *testing.T) {
	wantPages(t, changes(to(0, 1)), 0)
	wantPages(t, changes(to(31, 1)), 0)
	wantPages(t, changes(to(32, 1)), 1)
	wantPages(t, changes(to(0, 32)), 0)
	wantPages(t, changes(to(32, 32)), 1)
	wantPages(t, changes(to(31, 2)), 0, 1)
	wantPages(t, changes(to(0, 33)), 0, 1)
	wantPages(t, changes(to(40, 57)), 1, 2, 3)
	wantPages(t, changes(to(40, 56)), 1, 2)
	wantPages(t, changes(to(63, 34)), 1, 2, 3)
	wantPages(t, changes(to(6399, 1)), 199)
	wantPages(t, changes(to(6367, 33)), 198, 199)
}

func TestPagesOfNone(t *testing.T) {
	wantPages(t, nil)
	wantPages(t, []api.Change{})
	for _, at := range []int{0, 1, 31, 32, 33, 63, 64, 6399} {
		wantPages(t, changes(to(at, 0)))
		wantPages(t, changes(to(at, 0), to(70, 1), to(at, 0)), 2)
	}
}

func TestPagesAreRisingAndToldOnce(t *testing.T) {
	wantPages(t, changes(to(1, 1), to(9, 3)), 0)
	wantPages(t, changes(to(5, 1), to(5, 1), to(5, 1)), 0)
	wantPages(t, changes(to(200, 1), to(100, 1), to(0, 1), to(150, 1)), 0, 3, 4, 6)
	wantPages(t, changes(to(90, 40), to(60, 40), to(6399, 1)), 1, 2, 3, 4, 199)
	wantPages(t, changes(to(6399, 1), to(31, 2), to(6368, 31), to(0, 33)), 0, 1, 199)
	var all []int
	for i := range 200 {
		all = append(all, i)
	}
	wantPages(t, changes(to(0, 6400)), all...)
	wantPages(t, changes(to(0, 6400), to(17, 1), to(0, 6400)), all...)
}

// TestPagesOfMany: there is no bound.
func TestPagesOfMany(t *testing.T) {
	var l []api.Change
	var all []int
	for i := range 6400 {
		l = append(l, to(6399-i, 1))
	}
	for i := range 200 {
		all = append(all, i)
	}
	wantPages(t, l, all...)
	wantPages(t, l[:200], 193, 194, 195, 196, 197, 198, 199)
	wantPages(t, l[:201], 193, 194, 195, 196, 197, 198, 199)
}

// TestPagesOfWhatItWas: what is the same is told too.
func TestPagesOfWhatItWas(t *testing.T) {
	wantPages(t, changes(change(31, "ab", "ab")), 0, 1)
	wantPages(t, changes(change(64, "a", "b"), change(64, "b", "a")), 2)
	wantPages(t, changes(api.Change{At: 96, Old: make([]byte, 5), New: make([]byte, 5)}), 3)
}

// TestPagesAsksNothingOfOld: where it ends, or whether it is as long, does not matter.
func TestPagesAsksNothingOfOld(t *testing.T) {
	wantPages(t, changes(change(31, "", "ab")), 0, 1)
	wantPages(t, changes(change(31, "abc", "a")), 0)
	wantPages(t, changes(change(31, "abc", "")))
	wantPages(t, changes(change(6399, "abc", "a")), 199)
	wantPages(t, changes(change(6399, "abc", "")))
	wantPages(t, changes(api.Change{At: 0, Old: make([]byte, 7000), New: []byte{1}}), 0)
}

func TestPagesOfWrongPlaces(t *testing.T) {
	for _, at := range []int{math.MinInt, math.MinInt + 1, -1 << 32, -6400, -32, -1, 6400, 6401, 6432, 1 << 31, 1 << 32, 1<<32 + 5, math.MaxInt - 6400, math.MaxInt - 1, math.MaxInt} {
		for _, n := range []int{0, 1, 2, 32, 6400, 6401} {
			wantNoPages(t, changes(to(at, n)))
			wantNoPages(t, changes(to(5, 1), to(at, n)))
			wantNoPages(t, changes(to(at, n), to(5, 1)))
		}
	}
}

func TestPagesOfNewThatGoesBeyond(t *testing.T) {
	for _, at := range []int{0, 1, 31, 32, 6368, 6398, 6399} {
		all, err := diff.Pages(changes(to(at, 6400-at)))
		if err != nil || len(all) != 200-at/32 || all[0] != at/32 || all[len(all)-1] != 199 {
			t.Errorf("Pages of all from %d on: got %v, %v", at, all, err)
		}
		wantNoPages(t, changes(to(at, 6401-at)))
		wantNoPages(t, changes(to(at, 6402-at)))
		wantNoPages(t, changes(to(at, 10000)))
		wantNoPages(t, changes(to(3, 3), to(at, 6401-at), to(3, 3)))
	}
	// whatever Old is
	wantNoPages(t, changes(change(6399, "", "ab")))
	wantNoPages(t, changes(change(6398, "ab", "abc")))
}

// TestPagesAgainstModel: each place and length about three pages, and two drawn ones at once.
func TestPagesAgainstModel(t *testing.T) {
	for at := range 100 {
		for n := range 100 {
			l := changes(to(at, n))
			wantPages(t, l, touched(l)...)
		}
	}
	r := rand.New(rand.NewSource(900))
	for range 1000 {
		var l []api.Change
		for range r.Intn(6) {
			at := r.Intn(6400)
			l = append(l, to(at, r.Intn(min(80, 6401-at))))
		}
		wantPages(t, l, touched(l)...)
	}
}

// touched tells byte by byte which pages changes write to.
func touched(l []api.Change) []int {
	var is [200]bool
	for _, c := range l {
		for i := range c.New {
			is[(c.At+i)/32] = true
		}
	}
	var out []int
	for i, b := range is {
		if b {
			out = append(out, i)
		}
	}
	return out
}

// TestPagesOfDiff: the pages of what Diff says are those that differ.
func TestPagesOfDiff(t *testing.T) {
	r := rand.New(rand.NewSource(9000))
	for range 50 {
		a := seq(6400)
		b := slices.Clone(a)
		for range r.Intn(12) {
			b[r.Intn(6400)]++
		}
		var want []int
		for i := range 200 {
			if !slices.Equal(a[32*i:32*i+32], b[32*i:32*i+32]) {
				want = append(want, i)
			}
		}
		l, err := diff.Diff(a, b)
		if err != nil {
			t.Errorf("Diff: got %v", err)
		}
		wantPages(t, l, want...)
	}
}
