package extent_test

import (
	"math"
	"slices"
	"testing"

	"vaultkeel/api"
	"vaultkeel/extent"
	"vaultkeel/plain"
)

// list of extents, from pairs of At and Len.
func list(pairs ...int) (l []api.Extent) {
	for i := 0; i < len(pairs); i += 2 {
		l = append(l, api.Extent{At: pairs[i], Len: pairs[i+1]})
	}
	return l
}

// every gives count extents of n bytes each, of which one begins each step bytes, from at on.
func every(at, step, n, count int) (l []api.Extent) {
	for i := range count {
		l = append(l, api.Extent{At: at + step*i, Len: n})
	}
	return l
}

// orders of a list: as it is, turned round, and by strides, so that neighbours stand far from each other.
func orders(l []api.Extent) [][]api.Extent {
	round := slices.Clone(l)
	slices.Reverse(round)
	all := [][]api.Extent{l, round}
	for _, stride := range []int{2, 3, 7} {
		var o []api.Extent
		for first := range stride {
			for i := first; i < len(l); i += stride {
				o = append(o, l[i])
			}
		}
		all = append(all, o)
	}
	return all
}

// around gives l as a part of a greater list, with extents about it that would be a fault in any.
func around(l []api.Extent) (part, whole []api.Extent) {
	odd := slices.Repeat(list(0, math.MaxInt), 3)
	whole = slices.Concat(odd, l, odd)
	return whole[len(odd) : len(odd)+len(l)], whole
}

// answers of all four functions.
type answers struct {
	check, frees, fit, stat api.Errno
	runs                    []api.Extent
	at                      int
	told                    api.Stat
}

func (a answers) same(b answers) bool {
	runs := slices.Equal(a.runs, b.runs)
	a.runs, b.runs = nil, nil
	return runs && a.check == b.check && a.frees == b.frees && a.fit == b.fit && a.stat == b.stat && a.at == b.at && a.told == b.told
}

// ask all four functions, and that none of them writes into what it is given, or about it.
func ask(t *testing.T, n int, l []api.Extent, size int) (a answers) {
	t.Helper()
	part, whole := around(l)
	before := slices.Clone(whole)
	unchanged := func(what string) {
		if !slices.Equal(whole, before) {
			t.Fatalf("%s of %d, %v wrote into what it was given", what, n, l)
		}
	}
	a.check = plain.Told(extent.Check(n, part))
	unchanged("Check")
	runs, err := extent.Frees(n, part)
	a.runs, a.frees = runs, plain.Told(err)
	unchanged("Frees")
	at, err := extent.Fit(n, part, size)
	a.at, a.fit = at, plain.Told(err)
	unchanged("Fit")
	s, err := extent.Stat(n, part)
	a.told, a.stat = s, plain.Told(err)
	unchanged("Stat")
	return a
}

// sizes for Fit, those that are none among them.
var sizes = []int{1, 2, 6399, 6400, 0, -1, 6401, math.MaxInt, math.MinInt}

// wantFault asks all four for an error and nothing beside it, whatever the size is.
func wantFault(t *testing.T, n int, l []api.Extent, told api.Errno) {
	t.Helper()
	for _, size := range sizes {
		if got := ask(t, n, l, size); !got.same(answers{told, told, told, told, nil, 0, api.Stat{}}) {
			t.Errorf("of %d, %v, size %d: got %+v; want %v alone", n, l, size, got, told)
		}
	}
}

// wantRight asks for no fault, and for these runs, from pairs of At and Len.
func wantRight(t *testing.T, n int, l []api.Extent, pairs ...int) {
	t.Helper()
	runs := list(pairs...)
	want := answers{runs: runs, told: api.Stat{Objects: len(l), Runs: len(runs)}}
	for _, e := range l {
		want.told.Used += e.Len
	}
	for _, e := range runs {
		want.told.Free += e.Len
		want.told.Most = max(want.told.Most, e.Len)
	}
	for _, size := range sizes {
		want.at, want.fit = 0, api.ErrRange
		if 1 <= size && size <= 6400 {
			want.at, want.fit = fitting(runs, size)
		}
		if got := ask(t, n, l, size); !got.same(want) {
			t.Errorf("of %d, %v, size %d: got %+v; want %+v", n, l, size, got, want)
		}
	}
}

// fitting tells by lengths, from size on, where the first run of one of them is.
func fitting(runs []api.Extent, size int) (int, api.Errno) {
	for length := size; length <= 6400; length++ {
		if i := slices.IndexFunc(runs, func(r api.Extent) bool { return r.Len == length }); i >= 0 {
			return runs[i].At, api.OK
		}
	}
	return 0, api.ErrFull
}

// byBytes tells what is to be told, byte by byte, for an n and a length of l that may be.
func byBytes(n int, l []api.Extent, size int) answers {
	taken := make([]bool, n)
	for _, e := range l {
		if e.Len < 1 {
			return allOf(api.ErrRange)
		}
		for k := e.At; k < e.At+e.Len; k++ {
			if k < 0 || k >= n {
				return allOf(api.ErrRange)
			}
		}
		for k := e.At; k < e.At+e.Len; k++ {
			if taken[k] {
				return allOf(api.ErrClash)
			}
		}
		for k := e.At; k < e.At+e.Len; k++ {
			taken[k] = true
		}
	}
	a := answers{told: api.Stat{Objects: len(l)}}
	for k, isTaken := range taken {
		switch {
		case isTaken:
			a.told.Used++
			continue
		case k == 0 || taken[k-1]:
			a.runs = append(a.runs, api.Extent{At: k})
		}
		a.told.Free++
		last := &a.runs[len(a.runs)-1]
		last.Len++
		a.told.Most = max(a.told.Most, last.Len)
	}
	a.told.Runs = len(a.runs)
	if a.fit = api.ErrRange; 1 <= size && size <= 6400 {
		a.at, a.fit = fitting(a.runs, size)
	}
	return a
}

func allOf(told api.Errno) answers {
	return answers{check: told, frees: told, fit: told, stat: told}
}
