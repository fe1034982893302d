package run_test

import (
	"slices"
	"strconv"
	"testing"
)

// changes are lines that change so many pages of what some made, when it was committed; and how that is told behind them.
type changes struct {
	pages       int
	lines, tell []string
}

func allChanges() []changes {
	return []changes{
		{1, []string{"write 1 0 ff", "ok"}, []string{"read 1 0 5", "ff00070809", "get main", "1", "stat", "2 15 721 701 2"}},
		{1, []string{"unset main", "ok"}, []string{"read 1 0 5", "0300070809", "get main", "ErrNone", "stat", "2 15 721 701 2"}},
		{2, []string{"new 9 1", "2", "set a 2", "new"}, []string{"read 2 0 9", "000000000000000000", "get a", "2", "get main", "1", "stat", "3 24 712 701 2"}},
		{3, []string{"new 40 1", "2", "write 2 0 01", "ok", "write 2 39 02", "ok"}, []string{"read 2 0 1", "01", "read 2 38 2", "0002", "get main", "1", "stat", "3 55 681 661 2"}},
	}
}

// gone is what lines are answered while the power is gone, and which do not change what there is behind a crash.
func gone() []string {
	return []string{
		"stamp", "3",
		"commit", "ErrLost",
		"write 3 9 00", "ok",
		"read 3 8 2", "9800",
		"commit", "ErrLost",
		"cut 9", "ok",
		"commit", "ErrLost",
		"cut -1", "ok",
		"commit", "ErrLost",
		"new 3 0", "", // which one hangs on what there was
		"set other 3", "new",
		"get other", "3",
		"unset other", "ok",
		"fly", "bad",
		"abort", "ok",
		"read 3 0 10", "102132435465768798a9",
		"commit", "ErrLost", // of nothing, too
		"stat", "2 15 721 701 2",
		"free 3", "ok",
		"pack", "0",
		"sweep", "0",
		"stamp", "3",
	}
}

// goneBehind fills in what hangs on what there was ahead.
func goneBehind(c changes) []string {
	pairs := gone()
	handle := "2"
	if slices.Contains(c.lines, "2") {
		handle = "4"
	}
	pairs[slices.Index(pairs, "new 3 0")+1] = handle
	return pairs
}

// The power goes at each step of a Commit, and behind it. Of p pages these are: p Writes and a Flush; the mark, a Flush; p Writes and a Flush. From where the mark is written on it is there: all that is pending is kept.
func TestCutInEachStep(t *testing.T) {
	for _, c := range allChanges() {
		steps := 2*c.pages + 4
		for n := range steps {
			begin := slices.Concat(some(), []string{"commit", "ok"}, c.lines, []string{"cut " + strconv.Itoa(n), "ok", "commit", "ErrLost"})
			end := slices.Concat([]string{"crash", "ok"}, wantSome(), []string{"stamp", "3"})
			if n > c.pages {
				end = slices.Concat([]string{"crash", "ok"}, c.tell, []string{"stamp", "4"})
			}
			wantTalk(t, slices.Concat(begin, c.tell, end)...)
			wantTalk(t, slices.Concat(begin, goneBehind(c), end, end, []string{"commit", "ok", "free 3", "ok", "commit", "ok"})...)
		}
		for n := steps; n < steps+3; n++ {
			begin := slices.Concat(some(), []string{"commit", "ok"}, c.lines, []string{"cut " + strconv.Itoa(n), "ok", "commit", "ok", "stamp", "4"}, c.tell)
			wantTalk(t, slices.Concat(begin, []string{"crash", "ok", "stamp", "4"}, c.tell)...)
			wantTalk(t, slices.Concat(begin, []string{"free 3", "ok", "commit", "ErrLost", "stamp", "4"})...)
		}
	}
}

// Behind a crash that followed a cut Commit, the store goes on: what is committed then is kept.
func TestOnBehindCut(t *testing.T) {
	for n := range 6 {
		was := "0300070809"
		if n > 1 {
			was = "ff00070809"
		}
		wantTalk(t, slices.Concat(some(), []string{
			"commit", "ok", "write 1 0 ff", "ok", "cut " + strconv.Itoa(n), "ok", "commit", "ErrLost", "crash", "ok", "read 1 0 5", was,
			"write 1 4 ee", "ok", "commit", "ok", "write 1 3 dd", "ok", "crash", "ok", "read 1 0 5", was[:8] + "ee",
			"write 1 3 dd", "ok", "cut 1", "ok", "commit", "ErrLost", "crash", "ok", "read 1 0 5", was[:8] + "ee",
			"write 1 3 dd", "ok", "cut 2", "ok", "commit", "ErrLost", "crash", "ok", "read 1 0 5", was[:6] + "ddee",
		})...)
	}
}

// It counts over several Commits; one of nothing has no step.
func TestCutOverCommits(t *testing.T) {
	for n := range 22 {
		pairs := []string{"cut " + strconv.Itoa(n), "ok"}
		left := n
		kept := "00"
		for i := range 4 {
			body := "0" + strconv.Itoa(i+1)
			line := "write 1 0 " + body
			steps := 6
			if i == 0 {
				pairs = append(pairs, "new 1 0", "1")
				steps = 8 // the handle is in another page
			}
			pairs = append(pairs, line, "ok")
			if left < steps {
				pairs = append(pairs, "commit", "ErrLost", "crash", "ok")
				if left > (steps-4)/2 {
					kept = body
				}
				break
			}
			left -= steps
			kept = body
			pairs = append(pairs, "commit", "ok", "commit", "ok", "commit", "ok")
		}
		answer := kept
		if n <= 2 {
			answer = "ErrNone"
		}
		wantTalk(t, append(pairs, "read 1 0 1", answer)...)
	}
}

// A later one takes the place of the one ahead; below 0 the power never goes.
func TestCutAnew(t *testing.T) {
	wantTalk(t, "cut 0", "ok", "cut 6", "ok", "new 1 1", "1", "commit", "ok", "free 1", "ok", "commit", "ErrLost")
	wantTalk(t, "cut 6", "ok", "cut 0", "ok", "new 1 1", "1", "commit", "ErrLost")
	for _, n := range []string{"-1", "-2", "-6", "-999999999"} {
		wantTalk(t, "cut 0", "ok", "cut "+n, "ok", "new 1 1", "1", "commit", "ok", "free 1", "ok", "commit", "ok", "new 1 1", "1", "commit", "ok", "stamp", "5")
	}
	wantTalk(t, slices.Concat([]string{"cut 999999999", "ok"}, times(30, "new 1 1", "1", "commit", "ok", "free 1", "ok", "commit", "ok"), []string{"stamp", "62"})...)
}

// Nothing but a Commit of something has steps.
func TestCutAndOtherLines(t *testing.T) {
	wantTalk(t, slices.Concat([]string{"cut 0", "ok"}, some(), wantSome(), []string{
		"pack", "1", "sweep", "0", "abort", "ok", "commit", "ok", "stamp", "2", "fly", "bad", "commit", "ok", "new 1 1", "1", "commit", "ErrLost",
	})...)
}

// What cut said is forgotten.
func TestCrashForgetsCut(t *testing.T) {
	for n := range 8 {
		wantTalk(t, slices.Concat([]string{"cut " + strconv.Itoa(n), "ok", "crash", "ok"}, times(3, "new 1 1", "1", "commit", "ok", "free 1", "ok", "commit", "ok"))...)
		wantTalk(t, "new 1 1", "1", "cut 0", "ok", "commit", "ErrLost", "cut "+strconv.Itoa(n), "ok", "crash", "ok", "new 1 1", "1", "commit", "ok", "free 1", "ok", "commit", "ok")
	}
}

// With the power there, and nothing pending: what was not committed is not there.
func TestCrashWithPower(t *testing.T) {
	wantTalk(t, slices.Concat([]string{"crash", "ok"}, wantNothing(), []string{"stamp", "2", "crash", "ok", "crash", "ok", "stamp", "2"}, wantNothing())...)
	wantTalk(t, slices.Concat(some(), []string{"crash", "ok"}, wantNothing(), []string{"crash", "ok"}, wantNothing())...)
	wantTalk(t, slices.Concat(some(), []string{"commit", "ok"}, times(3, append([]string{"crash", "ok", "stamp", "3"}, wantSome()...)...))...)
	wantTalk(t, slices.Concat(some(), []string{"commit", "ok", "sweep", "0", "unset main", "ok", "sweep", "2", "crash", "ok"}, wantSome())...)
}

// With the power gone, and once more.
func TestCrashWithoutPower(t *testing.T) {
	for n := range 6 {
		kept := wantNothing()
		stamp := "2"
		if n > 1 {
			kept, stamp = []string{"stat", "1 9 727 727 1", "read 1 0 9", "000000000000000000", "get main", "ErrNone"}, "3"
		}
		wantTalk(t, slices.Concat(
			[]string{"new 9 1", "1", "cut " + strconv.Itoa(n), "ok", "commit", "ErrLost", "stamp", "2", "crash", "ok", "stamp", stamp}, kept,
			[]string{"crash", "ok", "stamp", stamp}, kept, []string{"commit", "ok", "stamp", stamp},
		)...)
	}
}
