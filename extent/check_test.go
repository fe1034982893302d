package extent_test

import (
	"math"
	"slices"
	"testing"

	"vaultkeel/api"
)

func TestBytesThatMayBe(t *testing.T) {
	wantRight(t, 0, nil)
	wantRight(t, 1, nil, 0, 1)
	wantRight(t, 1, list(0, 1))
	wantRight(t, 2, list(1, 1), 0, 1)
	wantRight(t, 6399, nil, 0, 6399)
	wantRight(t, 6400, nil, 0, 6400)
	wantRight(t, 6400, list(6399, 1), 0, 6399)
	wantRight(t, 6400, list(0, 6400))
}

func TestBytesThatMayNotBe(t *testing.T) {
	for _, n := range []int{-1, -2, -6400, 6401, 6402, 1 << 32, 1<<32 + 60, math.MaxInt, math.MaxInt - 1, math.MinInt, math.MinInt + 1} {
		for _, l := range [][]api.Extent{nil, {}, list(0, 1), list(0, 0), list(-1, 1), list(0, 1, 0, 1), list(math.MaxInt, math.MaxInt), every(0, 2, 1, 200), every(0, 2, 1, 201)} {
			wantFault(t, n, l, api.ErrRange)
		}
	}
}

func TestNoExtents(t *testing.T) {
	for _, n := range []int{1, 2, 60, 6400} {
		wantRight(t, n, nil, 0, n)
		wantRight(t, n, []api.Extent{}, 0, n)
	}
	wantRight(t, 0, []api.Extent{})
	for _, e := range list(0, 0, 0, 1, -1, 1, -1, 2, 1, 0, 1, -1) {
		wantFault(t, 0, []api.Extent{e}, api.ErrRange)
	}
}

func TestMaxList(t *testing.T) {
	full := every(0, 32, 32, 200)
	thin := every(0, 32, 31, 200)
	var between []int
	for i := range 200 {
		between = append(between, 32*i+31, 1)
	}
	for k, o := range orders(full) {
		wantRight(t, 6400, o)
		wantRight(t, 6400, o[:199], o[199].At, 32)
		wantRight(t, 6400, orders(thin)[k], between...)
	}
}

// ErrFull comes ahead of the faults of single ones, be they the first, or the one that is too many.
func TestMoreThanMaxList(t *testing.T) {
	right := every(0, 2, 1, 201)
	for _, n := range []int{0, 1, 400, 401, 6400} {
		wantFault(t, n, right, api.ErrFull)
	}
	for _, o := range orders(right) {
		wantFault(t, 6400, o, api.ErrFull)
	}
	for _, l := range [][]api.Extent{every(0, 0, 1, 201), every(0, 1, 2, 201), every(-1, 2, 1, 201), every(0, 2, 0, 201), make([]api.Extent, 201), every(0, 2, 1, 400), every(0, 2, 1, 6400), make([]api.Extent, 1<<16+200)} {
		wantFault(t, 6400, l, api.ErrFull)
	}
	for _, e := range list(0, 1, 6400, 1, -1, 1, 5000, 0) {
		wantFault(t, 6400, append(every(0, 2, 1, 200), e), api.ErrFull)
	}
}

func TestExtentsThatAreThere(t *testing.T) {
	wantRight(t, 60, list(0, 1), 1, 59)
	wantRight(t, 60, list(1, 1), 0, 1, 2, 58)
	wantRight(t, 60, list(59, 1), 0, 59)
	wantRight(t, 60, list(58, 1), 0, 58, 59, 1)
	wantRight(t, 60, list(58, 2), 0, 58)
	wantRight(t, 60, list(0, 59), 59, 1)
	wantRight(t, 60, list(1, 59), 0, 1)
	wantRight(t, 60, list(0, 60))
	wantRight(t, 6400, list(0, 1001), 1001, 5399)
	wantRight(t, 6400, list(1, 6399), 0, 1)
}

// wantFaultOf asks for the fault of one extent, alone and wherever it stands among others.
func wantFaultOf(t *testing.T, n int, e api.Extent, told api.Errno) {
	t.Helper()
	wantFault(t, n, []api.Extent{e}, told)
	if n >= 3 {
		for i := range 3 {
			wantFault(t, n, slices.Insert(list(n-1, 1, 0, 1), i, e), told)
		}
	}
}

func TestExtentsThatAreNotThere(t *testing.T) {
	for _, n := range []int{1, 2, 60, 6400} {
		for at := range min(n, 61) {
			for _, length := range []int{-1, 0, n - at + 1, n - at + 2, n + 1, 6401, math.MinInt, math.MaxInt} {
				wantFaultOf(t, n, api.Extent{At: at, Len: length}, api.ErrRange)
			}
		}
		for _, at := range []int{-1, -2, -n, -n - 1, n, n + 1, 6400, 6401, math.MaxInt, math.MinInt} {
			for _, length := range []int{-1, 0, 1, 2, n - 1, n, n + 1, n + 2} {
				wantFaultOf(t, n, api.Extent{At: at, Len: length}, api.ErrRange)
			}
		}
		wantFaultOf(t, n, api.Extent{At: n - 1, Len: 2}, api.ErrRange)
		wantFaultOf(t, n, api.Extent{At: n, Len: 0}, api.ErrRange)
	}
}

// Numbers that come to one which may be, if they are added up and wrap round.
func TestExtentsOfExtremes(t *testing.T) {
	extremes := []int{math.MaxInt, math.MaxInt - 1, math.MaxInt - 59, math.MaxInt - 60, math.MinInt, math.MinInt + 1, math.MinInt + 59, math.MinInt + 60, 1 << 32, 1<<32 + 1, -1 << 32, 1 << 62, -1 << 62}
	for _, n := range []int{1, 60, 6400} {
		for _, x := range extremes {
			for _, y := range extremes {
				wantFaultOf(t, n, api.Extent{At: x, Len: y}, api.ErrRange)
			}
			for _, y := range []int{-1, 0, 1, 30, 60, 6400} {
				wantFaultOf(t, n, api.Extent{At: x, Len: y}, api.ErrRange)
				wantFaultOf(t, n, api.Extent{At: y, Len: x}, api.ErrRange)
			}
		}
	}
}

func TestExtentsOverOneAhead(t *testing.T) {
	for _, c := range []struct {
		at, n int
		told  api.Errno
	}{
		{20, 10, api.ErrClash},                       // the same
		{15, 6, api.ErrClash}, {29, 6, api.ErrClash}, // by one byte
		{20, 1, api.ErrClash}, {29, 1, api.ErrClash}, {20, 9, api.ErrClash}, {21, 9, api.ErrClash}, {24, 2, api.ErrClash}, // within it
		{19, 12, api.ErrClash}, {20, 11, api.ErrClash}, {19, 11, api.ErrClash}, {0, 60, api.ErrClash}, // over all of it
		{0, 20, api.OK}, {30, 30, api.OK}, {19, 1, api.OK}, {30, 1, api.OK}, // they touch
		{0, 1, api.OK}, {18, 1, api.OK}, {31, 1, api.OK}, {59, 1, api.OK},
	} {
		for _, l := range [][]api.Extent{list(20, 10, c.at, c.n), list(c.at, c.n, 20, 10)} {
			if got := ask(t, 60, l, 1); got.check != c.told {
				t.Errorf("Check of 60, %v: got %v, want %v", l, got.check, c.told)
			}
			if c.told != api.OK {
				wantFault(t, 60, l, c.told)
			}
		}
	}
}

// A clash is told with any one ahead, not with the last alone, and not with the greatest.
func TestExtentsOverAnyAhead(t *testing.T) {
	l := every(10, 30, 20, 199)
	for _, o := range orders(l) {
		for i, e := range o {
			if i%9 != 0 && i < 195 {
				continue
			}
			for _, at := range []int{e.At - 1, e.At, e.At + 10, e.At + 19} {
				if got := ask(t, 6400, append(slices.Clone(o), api.Extent{At: at, Len: 2}), 1); !got.same(allOf(api.ErrClash)) {
					t.Fatalf("Check of one over %v: got %+v", e, got)
				}
			}
			last := append(slices.Clone(o), api.Extent{At: e.At - 5, Len: 5})
			if got := ask(t, 6400, last, 1); got.check != api.OK {
				t.Fatalf("Check of one that touches %v: got %+v", e, got)
			}
		}
	}
}

func TestTheFirstFaultIsTold(t *testing.T) {
	for _, c := range []struct {
		told api.Errno
		l    []api.Extent
	}{
		{api.ErrRange, list(60, 1, 5, 1, 5, 1)},
		{api.ErrRange, list(5, 1, 60, 1, 5, 1)},
		{api.ErrClash, list(5, 1, 5, 1, 60, 1)},
		{api.ErrClash, list(5, 1, 5, 1, 7, 0)},
		{api.ErrRange, list(7, 0, 5, 1, 5, 1)},
		{api.ErrClash, list(50, 10, 59, 1, 59, 2)},
		{api.ErrRange, list(50, 10, 59, 2)}, // of one with both ErrRange is named first
		{api.ErrRange, list(0, 10, -1, 5)},
		{api.ErrRange, list(0, 10, 5, 0)},
		{api.ErrRange, list(0, 10, 5, -1)},
		{api.ErrRange, list(0, 10, 5, math.MaxInt)},
		{api.ErrRange, list(59, 2, 59, 1)},
		{api.ErrRange, list(-1, 62, -1, 62)},
		{api.ErrClash, list(0, 60, 10, 1, -5, 1)},
	} {
		wantFault(t, 60, c.l, c.told)
	}
}

// lists calls with each list of up to count extents about n bytes.
func lists(n, count int, call func([]api.Extent)) {
	var grow func(l []api.Extent)
	grow = func(l []api.Extent) {
		call(l)
		if len(l) == count {
			return
		}
		for at := -1; at <= n+1; at++ {
			for length := -1; length <= n+1; length++ {
				grow(append(slices.Clone(l), api.Extent{At: at, Len: length}))
			}
		}
	}
	grow(nil)
}

// Each list of up to three extents about few bytes is held against what is told byte by byte.
func TestAllListsOfFewBytes(t *testing.T) {
	for n, count := range []int{3, 3, 3, 3, 3, 2, 2} {
		lists(n, count, func(l []api.Extent) {
			for _, size := range []int{len(l) & 1, 2} {
				if got, want := ask(t, n, l, size), byBytes(n, l, size); !got.same(want) {
					t.Fatalf("of %d, %v, size %d: got %+v; want %+v", n, l, size, got, want)
				}
			}
		})
	}
}
