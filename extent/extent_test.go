package extent_test

import (
	"math"
	"slices"
	"testing"

	"vaultkeel/api"
	"vaultkeel/extent"
	"vaultkeel/plain"
)

func TestFreesWhereRunsAre(t *testing.T) {
	for _, c := range []struct{ l, runs []int }{
		{[]int{}, []int{0, 60}},
		{[]int{0, 60}, nil},
		{[]int{0, 20, 20, 20, 40, 20}, nil},
		{[]int{10, 50}, []int{0, 10}},
		{[]int{0, 50}, []int{50, 10}},
		{[]int{0, 10, 50, 10}, []int{10, 40}},
		{[]int{10, 10, 30, 10}, []int{0, 10, 20, 10, 40, 20}},
		{[]int{1, 58}, []int{0, 1, 59, 1}},
		{[]int{0, 1, 2, 1, 4, 1, 6, 54}, []int{1, 1, 3, 1, 5, 1}},
		{[]int{10, 5, 15, 5, 20, 5}, []int{0, 10, 25, 35}}, // those that touch leave none between
		{[]int{10, 5, 15, 5, 21, 4}, []int{0, 10, 20, 1, 25, 35}},
	} {
		for _, o := range orders(list(c.l...)) {
			wantRight(t, 60, o, c.runs...)
		}
	}
}

// Of many extents the runs are rising and as long as they can be, whatever their order.
func TestFreesOfMany(t *testing.T) {
	for _, step := range []int{3, 31, 32} {
		for _, n := range []int{1, 2, 3} {
			l := every(0, step, n, 200)
			for _, o := range orders(l) {
				want := byBytes(6400, l, 5)
				if got := ask(t, 6400, o, 5); !got.same(want) {
					t.Errorf("200 of %d bytes, each %d: got %+v; want %+v", n, step, got, want)
				}
			}
		}
	}
}

func TestFreesGivesFreshMemory(t *testing.T) {
	for _, l := range [][]api.Extent{nil, list(10, 5), list(30, 5, 10, 5), every(1, 3, 1, 200)} {
		want := byBytes(6400, l, 1).runs
		part, _ := around(l)
		a, errA := extent.Frees(6400, part)
		b, errB := extent.Frees(6400, part)
		if errA != nil || errB != nil || !slices.Equal(a, want) {
			t.Fatalf("Frees of %v: got %v, %v, %v; want %v", l, a, errA, errB, want)
		}
		clear(a[:cap(a)])
		if !slices.Equal(b, want) || !slices.Equal(part, l) {
			t.Errorf("Frees of %v: an answer shares memory", l)
		}
		clear(part)
		if !slices.Equal(b, want) {
			t.Errorf("Frees of %v: an answer shares memory with what was handed in", l)
		}
	}
}

// wantFit asks for a place without an error, or for an error and 0.
func wantFit(t *testing.T, n int, l []api.Extent, size, at int, told api.Errno) {
	t.Helper()
	if got := ask(t, n, l, size); got.at != at || got.fit != told {
		t.Errorf("Fit(%d, %v, %d): got %d, %v; want %d, %v", n, l, size, got.at, got.fit, at, told)
	}
}

func TestFitIsTheShortest(t *testing.T) {
	l := list(8, 2, 15, 5, 23, 7, 33, 3, 42, 4, 47, 1) // free: 0+8 10+5 20+3 30+3 36+6 46+1 48+12
	for _, o := range orders(l) {
		for size, at := range []int{-1, 46, 20, 20, 10, 10, 36, 0, 0, 48, 48, 48, 48} {
			if size > 0 {
				wantFit(t, 60, o, size, at, api.OK)
			}
		}
		for _, size := range []int{13, 14, 29, 60, 61, 6400} {
			wantFit(t, 60, o, size, 0, api.ErrFull)
		}
	}
}

func TestFitOfEqualOnesIsTheFirst(t *testing.T) {
	for _, o := range orders(every(4, 6, 2, 200)) { // runs of 4, and one behind
		wantFit(t, 1204, o, 1, 0, api.OK)
		wantFit(t, 1204, o, 4, 0, api.OK)
		wantFit(t, 1204, o, 5, 0, api.ErrFull)
		wantFit(t, 1203, o, 3, 1200, api.OK)
		wantFit(t, 1203, o, 4, 0, api.OK)
		wantFit(t, 1205, o, 5, 1200, api.OK)
	}
	l := list(0, 2, 9, 1, 13, 1, 17, 1, 21, 1) // free: 2+7 10+3 14+3 18+3 22+38
	for _, o := range orders(l) {
		wantFit(t, 60, o, 1, 10, api.OK)
		wantFit(t, 60, o, 3, 10, api.OK)
		wantFit(t, 60, o, 4, 2, api.OK)
	}
}

func TestFitToTheByte(t *testing.T) {
	for _, n := range []int{1, 2, 60, 6399, 6400} {
		wantFit(t, n, nil, n, 0, api.OK)
		wantFit(t, n, nil, 1, 0, api.OK)
		wantFit(t, n, list(0, n), 1, 0, api.ErrFull)
		if n < 6400 {
			wantFit(t, n, nil, n+1, 0, api.ErrFull)
		}
	}
	wantFit(t, 0, nil, 1, 0, api.ErrFull)
	wantFit(t, 0, nil, 6400, 0, api.ErrFull)
	wantFit(t, 6400, list(0, 1), 6399, 1, api.OK)
	wantFit(t, 6400, list(0, 1), 6400, 0, api.ErrFull)
	wantFit(t, 6400, list(6399, 1), 6399, 0, api.OK)
	wantFit(t, 6400, list(3200, 1), 3199, 3201, api.OK)
	wantFit(t, 6400, list(3200, 1), 3200, 0, api.OK)
	wantFit(t, 6400, list(3200, 1), 3201, 0, api.ErrFull)
	wantFit(t, 60, list(10, 50), 10, 0, api.OK)
	wantFit(t, 60, list(0, 50), 10, 50, api.OK)
	wantFit(t, 60, list(0, 50), 11, 0, api.ErrFull)
}

// A size that is none is told behind what Check says, and ahead of there being no room.
func TestFitOfSizesThatAreNone(t *testing.T) {
	for _, size := range []int{0, -1, -6400, 6401, 6402, 1 << 32, 1<<32 + 1, math.MaxInt, math.MinInt} {
		for _, n := range []int{0, 1, 60, 6400} {
			wantFit(t, n, nil, size, 0, api.ErrRange)
		}
		wantFit(t, 60, list(0, 60), size, 0, api.ErrRange)
		wantFit(t, 60, list(5, 5), size, 0, api.ErrRange)
		wantFit(t, 60, list(5, 5, 9, 5), size, 0, api.ErrClash)
		wantFit(t, 60, every(0, 0, 1, 201), size, 0, api.ErrFull)
		wantFit(t, 60, list(60, 1), size, 0, api.ErrRange)
	}
}

// wantStat asks for numbers that are written out here.
func wantStat(t *testing.T, n int, l []api.Extent, want api.Stat) {
	t.Helper()
	got, err := extent.Stat(n, l)
	if err != nil || got != want {
		t.Errorf("Stat(%d, %v): got %+v, %v; want %+v", n, l, got, plain.Told(err), want)
	}
}

func TestStat(t *testing.T) {
	wantStat(t, 0, nil, api.Stat{})
	wantStat(t, 60, nil, api.Stat{Free: 60, Most: 60, Runs: 1})
	wantStat(t, 6400, []api.Extent{}, api.Stat{Free: 6400, Most: 6400, Runs: 1})
	wantStat(t, 60, list(0, 60), api.Stat{Objects: 1, Used: 60})
	wantStat(t, 1, list(0, 1), api.Stat{Objects: 1, Used: 1})
	for _, o := range orders(every(0, 32, 32, 200)) {
		wantStat(t, 6400, o, api.Stat{Objects: 200, Used: 6400})
	}
	for _, o := range orders(every(1, 32, 30, 200)) { // two free bytes between, one at either end
		wantStat(t, 6400, o, api.Stat{Objects: 200, Used: 6000, Free: 400, Most: 2, Runs: 201})
	}
	for _, o := range orders(list(0, 5, 5, 6, 13, 10, 33, 7, 41, 1)) { // free: 11+2 23+10 40+1 42+18
		wantStat(t, 60, o, api.Stat{Objects: 5, Used: 29, Free: 31, Most: 18, Runs: 4})
		wantStat(t, 42, o, api.Stat{Objects: 5, Used: 29, Free: 13, Most: 10, Runs: 3})
	}
	wantStat(t, 60, list(40, 20), api.Stat{Objects: 1, Used: 20, Free: 40, Most: 40, Runs: 1})
	wantStat(t, 60, list(40, 10), api.Stat{Objects: 1, Used: 10, Free: 50, Most: 40, Runs: 2})
}

// What a call answers hangs on its arguments alone, whatever was asked ahead.
func TestAskedAgain(t *testing.T) {
	l := list(30, 5, 10, 5, 50, 1)
	first := ask(t, 60, l, 7)
	for _, other := range [][]api.Extent{nil, list(0, 60), list(0, 61), list(0, 1, 0, 1), every(0, 2, 1, 201)} {
		ask(t, 60, other, 7)
		if got := ask(t, 60, l, 7); !got.same(first) {
			t.Errorf("asked again: got %+v; want %+v", got, first)
		}
	}
}
