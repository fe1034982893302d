package diff_test

import (
	"bytes"
	"math"
	"math/rand"
	"slices"
	"testing"

	"vaultkeel/api"
	"vaultkeel/diff"
	"vaultkeel/plain"
)

func TestApply(t *testing.T) {
	b := []byte("abcdef")
	wantApplied(t, b, changes(change(0, "a", "x")), []byte("xbcdef"))
	wantApplied(t, b, changes(change(5, "f", "x")), []byte("abcdex"))
	wantApplied(t, b, changes(change(2, "cd", "xy")), []byte("abxyef"))
	wantApplied(t, b, changes(change(0, "abcdef", "uvwxyz")), []byte("uvwxyz"))
	wantApplied(t, b, changes(change(4, "ef", "yz"), change(1, "b", "x")), []byte("axcdyz"))
	wantApplied(t, b, changes(change(3, "de", "de")), b)
}

func TestApplyOfNoChanges(t *testing.T) {
	for _, n := range []int{0, 1, 6400, 6401, 70000} {
		wantApplied(t, seq(n), nil, seq(n))
		wantApplied(t, seq(n), []api.Change{}, seq(n))
	}
	if b, err := diff.Apply(nil, nil); len(b) != 0 || err != nil {
		t.Errorf("Apply of nothing to nil: got %v, %v; want nothing", b, err)
	}
}

// TestApplyIsBoundByNoLength: of how long the bytes are no error is told.
func TestApplyIsBoundByNoLength(t *testing.T) {
	b := seq(70000)
	for _, at := range []int{0, 6399, 6400, 6401, 69998} {
		wantApplied(t, b, changes(api.Change{At: at, Old: b[at : at+2], New: []byte{1, 2}}), with(b, at, 1, 2))
	}
	c := seq(70000)
	slices.Reverse(c)
	wantApplied(t, b, changes(api.Change{At: 0, Old: b, New: c}), c)
}

func TestApplyIsAsItIsThen(t *testing.T) {
	b := []byte("abcdef")
	wantApplied(t, b, changes(change(1, "b", "x"), change(1, "x", "y"), change(1, "y", "z")), []byte("azcdef"))
	wantApplied(t, b, changes(change(1, "b", "x"), change(1, "x", "b")), b)
	wantApplied(t, b, changes(change(1, "bcd", "xyz"), change(3, "ze", "vw"), change(0, "axy", "pqr")), []byte("pqrvwf"))
	wantNotApplied(t, b, changes(change(1, "b", "x"), change(1, "b", "y")), api.ErrState)
	wantNotApplied(t, b, changes(change(1, "x", "y"), change(1, "b", "x")), api.ErrState)
	wantNotApplied(t, b, changes(change(1, "bcd", "xyz"), change(3, "de", "vw")), api.ErrState)
}

// TestApplyOfEmpty: no bytes stand anywhere, beyond the end too.
func TestApplyOfEmpty(t *testing.T) {
	for _, b := range [][]byte{nil, []byte("a"), []byte("abcdef"), seq(6400)} {
		for _, at := range []int{0, 1, 5, 6, 7, len(b) - 1, len(b), len(b) + 1, len(b) + 100, 6400, 6401, 1 << 32, math.MaxInt - 1, math.MaxInt} {
			if at < 0 {
				continue
			}
			c := api.Change{At: at}
			wantApplied(t, b, changes(c), b)
			wantApplied(t, b, changes(c, c, change(at, "", "")), b)
		}
	}
	wantApplied(t, []byte("ab"), changes(change(0, "a", "x"), change(3, "", ""), change(1, "b", "y")), []byte("xy"))
	wantNotApplied(t, []byte("ab"), changes(change(3, "", ""), change(0, "x", "y")), api.ErrState)
}

func TestApplyOfTooMany(t *testing.T) {
	b := seq(500)
	c := slices.Clone(b)
	var l []api.Change
	for i := range 201 {
		at := 2 * (i * 77 % 201)
		c[at]++
		l = append(l, api.Change{At: at, Old: b[at : at+1], New: []byte{b[at] + 1}})
		switch i {
		case 198, 199:
			wantApplied(t, b, l, c)
		case 200:
			wantNotApplied(t, b, l, api.ErrFull)
		}
	}
	for _, wrong := range []api.Change{change(-1, "", ""), change(-1, "a", ""), change(600, "a", "b"), change(0, "", "a"), change(0, "zz", "aa")} {
		many := slices.Repeat(changes(wrong), 201)
		wantNotApplied(t, b, many, api.ErrFull)
		wantNotApplied(t, nil, many, api.ErrFull)
		wantNotApplied(t, b, slices.Concat(changes(wrong), l[:200]), api.ErrFull)
		if _, err := diff.Apply(b, many[:200]); plain.Told(err) == api.ErrFull {
			t.Errorf("Apply of 200 changes such as %v: got %v", wrong, err)
		}
	}
	wantApplied(t, nil, make([]api.Change, 200), nil)
	wantNotApplied(t, nil, make([]api.Change, 201), api.ErrFull)
	wantNotApplied(t, b, make([]api.Change, 5000), api.ErrFull)
}

// TestApplyOfPlaces: below 0, or not as many bytes as Old has stand from there on.
func TestApplyOfPlaces(t *testing.T) {
	b := []byte("aaaaaa")
	for _, at := range []int{-1, -2, -6, -7, -1 << 32, math.MinInt + 1, math.MinInt} {
		for _, n := range []int{0, 1, 2, 6, 7} {
			old := bytes.Repeat([]byte("a"), n)
			wantNotApplied(t, b, changes(api.Change{At: at, Old: old, New: old}), api.ErrRange)
			wantNotApplied(t, nil, changes(api.Change{At: at, Old: old, New: old}), api.ErrRange)
		}
	}
	for _, at := range []int{6, 7, 8, 100, 1 << 31, 1<<32 - 1, 1 << 32, 1<<32 + 1, math.MaxInt - 6, math.MaxInt - 1, math.MaxInt} {
		for _, n := range []int{1, 2, 6, 7} {
			old := bytes.Repeat([]byte("a"), n)
			wantNotApplied(t, b, changes(api.Change{At: at, Old: old, New: old}), api.ErrRange)
			wantNotApplied(t, nil, changes(api.Change{At: at, Old: old, New: old}), api.ErrRange)
		}
	}
	for at := range 7 {
		for n := range 10 {
			old, now := bytes.Repeat([]byte("a"), n), bytes.Repeat([]byte("b"), n)
			c := changes(api.Change{At: at, Old: old, New: now})
			if at+n <= 6 {
				wantApplied(t, b, c, with(b, at, now...))
			} else {
				wantNotApplied(t, b, c, api.ErrRange)
			}
		}
	}
}

func TestApplyOfOtherLengths(t *testing.T) {
	b := []byte("abcdef")
	for at := range 7 {
		wantNotApplied(t, b, changes(change(at, "", "x")), api.ErrShape)
		wantNotApplied(t, b, changes(change(at, "", "abcdefg")), api.ErrShape)
		wantNotApplied(t, b, changes(api.Change{At: at, Old: b[at:], New: []byte("abcdefg")}), api.ErrShape)
	}
	wantNotApplied(t, b, changes(change(2, "c", "")), api.ErrShape)
	wantNotApplied(t, b, changes(change(2, "cd", "x")), api.ErrShape)
	wantNotApplied(t, b, changes(change(2, "c", "xy")), api.ErrShape)
	wantNotApplied(t, b, changes(change(0, "abcdef", "abcde")), api.ErrShape)
	wantNotApplied(t, b, changes(change(0, "abcde", "abcdef")), api.ErrShape)
	// behind ErrRange
	wantNotApplied(t, b, changes(change(-1, "a", "")), api.ErrRange)
	wantNotApplied(t, b, changes(change(-1, "", "a")), api.ErrRange)
	wantNotApplied(t, b, changes(change(5, "fg", "f")), api.ErrRange)
	wantNotApplied(t, b, changes(change(6, "g", "")), api.ErrRange)
	wantNotApplied(t, b, changes(change(math.MaxInt, "g", "gg")), api.ErrRange)
	wantNotApplied(t, b, changes(change(math.MinInt, "g", "gg")), api.ErrRange)
}

func TestApplyOfWhatDoesNotStandThere(t *testing.T) {
	b := seq(40)
	for at := range 40 {
		for end := at + 1; end <= 40; end++ {
			for _, i := range []int{at, (at + end) / 2, end - 1} {
				c := between(b, b, at, end)
				c.Old = other(b, i)[at:end]
				wantNotApplied(t, b, changes(c), api.ErrState)
			}
		}
	}
	// New that stands there is no reason, nor is an Old that stands elsewhere
	wantNotApplied(t, []byte("abc"), changes(change(0, "x", "a")), api.ErrState)
	wantNotApplied(t, []byte("abc"), changes(change(1, "a", "x")), api.ErrState)
	// behind ErrRange and ErrShape
	wantNotApplied(t, b, changes(change(39, "zz", "aa")), api.ErrRange)
	wantNotApplied(t, b, changes(change(0, "zz", "a")), api.ErrShape)
	wantNotApplied(t, b, changes(change(0, "zz", "")), api.ErrShape)
}

// TestApplyOfSeveralFaults: the first change that has one tells it, whatever follows.
func TestApplyOfSeveralFaults(t *testing.T) {
	b := []byte("abcdef")
	right := changes(change(0, "a", "x"), change(5, "f", "y"))
	wrong := []struct {
		change api.Change
		told   api.Errno
	}{
		{change(-1, "a", "b"), api.ErrRange},
		{change(6, "a", "b"), api.ErrRange},
		{change(2, "c", "xy"), api.ErrShape},
		{change(2, "", "x"), api.ErrShape},
		{change(2, "d", "x"), api.ErrState},
		{change(0, "a", "z"), api.ErrState}, // it stood there ahead
	}
	for _, x := range wrong {
		for _, y := range wrong {
			wantNotApplied(t, b, slices.Concat(right, changes(x.change, y.change)), x.told)
			wantNotApplied(t, b, slices.Concat(right, changes(x.change), right, changes(y.change)), x.told)
			wantNotApplied(t, b, slices.Concat(right, changes(x.change), right), x.told)
		}
	}
}

// TestApplyOfParts: changes whose lists are parts of the bytes themselves.
func TestApplyOfParts(t *testing.T) {
	b := []byte("abcdef")
	l := changes(
		api.Change{At: 0, Old: b[:3], New: b[3:]},
		api.Change{At: 3, Old: b[3:], New: b[:3]},
		api.Change{At: 1, Old: b[4:6], New: b[4:6]},
	)
	got, err := diff.Apply(b, l)
	if string(got) != "defabc" || err != nil || string(b) != "abcdef" {
		t.Errorf("Apply: got %q, %v, of %q; want defabc", got, err, b)
	}
}

// TestApplyOfDrawn holds drawn lists of changes against a model, right ones and wrong ones.
func TestApplyOfDrawn(t *testing.T) {
	r := rand.New(rand.NewSource(90))
	seen := map[api.Errno]int{}
	for range 3000 {
		b := bitsOf(r.Intn(1<<6), r.Intn(7))
		var l []api.Change
		for range r.Intn(4) {
			n := r.Intn(4)
			c := api.Change{At: r.Intn(9) - 1, Old: bitsOf(r.Intn(8), n), New: bitsOf(r.Intn(8), n)}
			if r.Intn(8) == 0 {
				c.New = bitsOf(r.Intn(8), r.Intn(4))
			}
			l = append(l, c)
		}
		want, told := applied(b, l)
		seen[told]++
		if told == api.OK {
			wantApplied(t, b, l, want)
			wantApplied(t, want, diff.Turn(l), b)
		} else {
			wantNotApplied(t, b, l, told)
		}
	}
	for _, e := range []api.Errno{api.OK, api.ErrRange, api.ErrShape, api.ErrState} {
		if seen[e] < 100 {
			t.Errorf("drawn too seldom: %v %d times", e, seen[e])
		}
	}
}

// applied does what changes say byte by byte, each by asking for the bytes it needs.
func applied(b []byte, l []api.Change) ([]byte, api.Errno) {
	now := slices.Clone(b)
	for _, c := range l {
		if c.At < 0 {
			return nil, api.ErrRange
		}
		for i := range c.Old {
			if c.At+i >= len(now) {
				return nil, api.ErrRange
			}
		}
		if len(c.Old) != len(c.New) {
			return nil, api.ErrShape
		}
		for i, x := range c.Old {
			if now[c.At+i] != x {
				return nil, api.ErrState
			}
		}
		for i, x := range c.New {
			now[c.At+i] = x
		}
	}
	return now, api.OK
}
