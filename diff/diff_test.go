package diff_test

import (
	"math/rand"
	"slices"
	"testing"

	"vaultkeel/api"
	"vaultkeel/diff"
)

func TestDiffOfOtherLengths(t *testing.T) {
	for _, n := range [][2]int{{0, 1}, {1, 2}, {5, 6}, {4, 8}, {0, 6400}, {6399, 6400}, {6400, 6401}, {6401, 6402}, {0, 6401}, {1, 70000}, {6401, 70000}} {
		wantNoDiff(t, seq(n[0]), seq(n[1]), api.ErrShape)
		wantNoDiff(t, seq(n[1]), seq(n[0]), api.ErrShape)
	}
	if l, err := diff.Diff(nil, []byte{0}); len(l) != 0 || err != api.ErrShape {
		t.Errorf("Diff of nil and one byte: got %v, %v; want none, ErrShape", l, err)
	}
	if l, err := diff.Diff([]byte{0}, nil); len(l) != 0 || err != api.ErrShape {
		t.Errorf("Diff of one byte and nil: got %v, %v; want none, ErrShape", l, err)
	}
}

func TestDiffOfTooMany(t *testing.T) {
	for _, n := range []int{6401, 6402, 6432, 12800, 70000} {
		b := seq(n)
		wantNoDiff(t, b, b, api.ErrFull)
		wantNoDiff(t, b, other(b, 0), api.ErrFull)
		wantNoDiff(t, b, other(b, n-1), api.ErrFull)
		wantNoDiff(t, make([]byte, n), make([]byte, n), api.ErrFull)
	}
	for _, n := range []int{6399, 6400} {
		b := seq(n)
		wantDiff(t, b, b, nil)
		for _, i := range []int{0, 1, 3200, n - 2, n - 1} {
			c := other(b, i)
			wantDiff(t, b, c, changes(between(b, c, i, i+1)))
		}
	}
}

func TestDiffOfTheSame(t *testing.T) {
	for _, n := range []int{1, 2, 31, 32, 33, 288, 6400} {
		wantDiff(t, seq(n), seq(n), nil)
		wantDiff(t, make([]byte, n), make([]byte, n), nil)
	}
	b := seq(50)
	if l, err := diff.Diff(b, b); len(l) != 0 || err != nil {
		t.Errorf("Diff of a list and itself: got %v, %v; want none", l, err)
	}
	for _, p := range [][2][]byte{{nil, nil}, {nil, {}}, {{}, nil}, {{}, {}}, {b[:0], b[3:3]}} {
		if l, err := diff.Diff(p[0], p[1]); len(l) != 0 || err != nil {
			t.Errorf("Diff of two empty lists: got %v, %v; want none", l, err)
		}
	}
}

// TestDiffOfOneRun: from each place on, of each length.
func TestDiffOfOneRun(t *testing.T) {
	for _, n := range []int{1, 2, 5, 40} {
		b := seq(n)
		for at := range n {
			for end := at + 1; end <= n; end++ {
				c := slices.Clone(b)
				for i := at; i < end; i++ {
					c[i]++
				}
				wantDiff(t, b, c, changes(between(b, c, at, end)))
			}
		}
	}
	b, c := make([]byte, 6400), slices.Repeat([]byte{255}, 6400)
	wantDiff(t, b, c, changes(api.Change{At: 0, Old: b, New: c}))
}

func TestDiffOfTwoRuns(t *testing.T) {
	b := seq(20)
	for i := range 18 {
		c := other(b, i, i+1)
		wantDiff(t, b, c, changes(between(b, c, i, i+2)))
		c = other(b, i, i+2)
		wantDiff(t, b, c, changes(between(b, c, i, i+1), between(b, c, i+2, i+3)))
	}
	wantDiff(t, []byte("abcdef"), []byte("xbcdyz"), changes(change(0, "a", "x"), change(4, "ef", "yz")))
	wantDiff(t, []byte("abcdef"), []byte("bcdefa"), changes(change(0, "abcdef", "bcdefa")))
	wantDiff(t, []byte("abab"), []byte("baba"), changes(change(0, "abab", "baba")))
	wantDiff(t, []byte("aaaa"), []byte("abaa"), changes(change(1, "a", "b")))
}

// TestDiffOfAsManyRunsAsMayBe: each byte at an even place is another one.
func TestDiffOfAsManyRunsAsMayBe(t *testing.T) {
	b := seq(6400)
	c := slices.Clone(b)
	var want []api.Change
	for i := 0; i < len(b); i += 2 {
		c[i]--
		want = append(want, between(b, c, i, i+1))
	}
	wantDiff(t, b, c, want)
	wantNotApplied(t, b, want, api.ErrFull)
}

// TestDiffOfEachByte: whichever two bytes are others, they differ.
func TestDiffOfEachByte(t *testing.T) {
	for x := range 256 {
		for y := range 256 {
			a, b := []byte{7, byte(x), 7}, []byte{7, byte(y), 7}
			if x == y {
				wantDiff(t, a, b, nil)
			} else {
				wantDiff(t, a, b, changes(api.Change{At: 1, Old: []byte{byte(x)}, New: []byte{byte(y)}}))
			}
		}
	}
}

// TestDiffAgainstModel: every two lists of up to six bytes, of two kinds.
func TestDiffAgainstModel(t *testing.T) {
	for n := range 7 {
		for x := range 1 << n {
			for y := range 1 << n {
				a, b := bitsOf(x, n), bitsOf(y, n)
				want := runsOf(a, b)
				wantDiff(t, a, b, want)
				wantThereAndBack(t, a, b, want)
			}
		}
	}
}

func TestDiffOfDrawn(t *testing.T) {
	r := rand.New(rand.NewSource(9))
	for range 300 {
		a := make([]byte, r.Intn(400))
		r.Read(a)
		b := slices.Clone(a)
		for range r.Intn(30) {
			if len(b) > 0 {
				b[r.Intn(len(b))] = byte(r.Intn(256))
			}
		}
		want := runsOf(a, b)
		wantDiff(t, a, b, want)
		wantThereAndBack(t, a, b, want)
	}
}

// wantThereAndBack asks that what Diff says makes of the first the second, and turned of the second the first.
func wantThereAndBack(t *testing.T, a, b []byte, l []api.Change) {
	t.Helper()
	wantApplied(t, a, l, b)
	wantApplied(t, b, diff.Turn(l), a)
}

// bitsOf gives n bytes that are 0 or 1.
func bitsOf(x, n int) []byte {
	b := make([]byte, n)
	for i := range b {
		b[i] = byte(x >> i & 1)
	}
	return b
}

// runsOf tells byte by byte what differs: one that differs goes on with the run of the one ahead, or begins one.
func runsOf(a, b []byte) []api.Change {
	var l []api.Change
	last := -2
	for i := range a {
		if a[i] == b[i] {
			continue
		}
		if last != i-1 {
			l = append(l, api.Change{At: i})
		}
		c := &l[len(l)-1]
		c.Old, c.New = append(c.Old, a[i]), append(c.New, b[i])
		last = i
	}
	return l
}
