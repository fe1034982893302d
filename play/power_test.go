package play_test

import (
	"math"
	"slices"
	"testing"

	"vaultkeel/api"
)

// kinds of a step of a Commit: what comes of it if the power goes there.
const (
	ahead  = iota // nothing of the Commit is there
	atMark        // the mark alone is pending
	behind        // all of it is there
)

// place tells of a step of script in which of the Commits it is, what is done there, and how many are pending if the power goes there.
func place(k int) (commit, kind, pending int) {
	for i, n := range scriptPages() {
		if k < 2*n+4 {
			switch {
			case k < n:
				return i, ahead, k + 1
			case k == n:
				return i, ahead, n
			case k <= n+2:
				return i, atMark, 1
			case k < 2*n+3:
				return i, behind, k - n - 2
			}
			return i, behind, n
		}
		k -= 2*n + 4
	}
	return len(scriptPages()), ahead, 0
}

// outcome tells what is there if the power goes at a step of script: a mark that is pending is there if it is kept, or if its last byte that changes is.
func outcome(k int, x loss) answer {
	i, kind, _ := place(k)
	isThere := kind == behind
	if kind == atMark {
		isThere = len(x.keep) > 0 && x.keep[0]
		if x.torn == 0 {
			isThere = x.cut >= 29
		}
	}
	if isThere {
		i++
	}
	return scriptStates()[i]
}

// Each step of a script with several Commits, written out: with nothing kept, and with all kept.
func TestThePowerGoesAtEachStep(t *testing.T) {
	none := []int{0, 0, 0, 0, 1, 1, 1, 1, 1, 1, 1, 2, 2, 2, 2, 2, 2, 2, 2, 3, 3, 3, 3, 3}
	all := []int{0, 0, 1, 1, 1, 1, 1, 1, 1, 2, 2, 2, 2, 2, 2, 2, 2, 3, 3, 3, 3, 3, 3, 3}
	states := scriptStates()
	wantSteps(t, 60, script(), scriptSteps, api.OK)
	for k := range scriptSteps + 2 { // in just as many steps as it has, and in one more, the power does not go in it
		game{60, script(), k, loss{nil, -1, 0}}.want(t, states[none[k]])
		game{60, script(), k, loss{make([]bool, 9), -1, 0}}.want(t, states[none[k]])
		game{60, script(), k, loss{slices.Repeat([]bool{true}, 9), -1, 0}}.want(t, states[all[k]])
	}
}

func TestThePowerNeverGoes(t *testing.T) {
	l := append(script(), commit)
	for _, k := range append([]int{-1, -2, -300, 32, 33, 300}, farNumbers...) {
		for _, x := range []loss{{nil, -1, 0}, {[]bool{true}, 0, 16}} {
			game{60, script(), k, x}.want(t, scriptStates()[3])
			game{60, l, k, x}.want(t, is([]api.Entry{entry(1, 288, 3, 3), entry(2, 293, 20, 2)}))
		}
	}
	game{60, l, 31, loss{nil, 0, 0}}.want(t, is([]api.Entry{entry(1, 288, 3, 3), entry(2, 293, 20, 2)}))
	game{60, l, 26, loss{nil, 0, 0}}.want(t, scriptStates()[3])
}

// Create has steps of its own, on a device of however many sectors: they do not count.
func TestThePowerGoesFromCreateOn(t *testing.T) {
	for _, n := range []int{58, 60, 80, 300} {
		for k := range 8 {
			want := scriptStates()[0]
			if k >= 4 {
				want = scriptStates()[1]
			}
			game{n, script()[:2], k, loss{nil, -1, 0}}.want(t, want)
			game{n, script()[:1], k, loss{nil, -1, 0}}.want(t, is(nil))
			game{n, []api.Op{commit, abort, commit}, k, loss{nil, -1, 0}}.want(t, is(nil))
		}
	}
}

// keeps gives all ways to keep so many, or not.
func keeps(n int) (l [][]bool) {
	for code := range 1 << n {
		keep := make([]bool, n)
		for i := range keep {
			keep[i] = code>>i&1 == 1
		}
		l = append(l, keep)
	}
	return l
}

// Whatever is kept of what is pending, and wherever one of it is torn.
func TestWhateverIsKept(t *testing.T) {
	for k := range scriptSteps {
		_, _, pending := place(k)
		for _, keep := range keeps(pending) {
			for torn := -1; torn <= pending; torn++ {
				for cut := 0; cut <= 32; cut++ {
					if torn < 0 || torn == pending {
						cut = 32 // none is torn: one cut is as good as another
					}
					x := loss{keep, torn, cut}
					game{60, script(), k, x}.want(t, outcome(k, x))
				}
			}
		}
	}
}

// What keep does not have is not kept; what it has beyond what is pending does not matter.
func TestKeepOfOtherLengths(t *testing.T) {
	for k := range scriptSteps + 1 {
		_, _, pending := place(k)
		for n := range pending + 3 {
			x := loss{slices.Repeat([]bool{true}, n), -1, 0}
			game{60, script(), k, x}.want(t, outcome(k, x))
			x.keep = slices.Concat(make([]bool, pending), x.keep)
			game{60, script(), k, x}.want(t, outcome(k, loss{nil, -1, 0}))
		}
	}
}

// A torn one that is none tears none; a cut that is none is made one.
func TestTornAndCutOutOfRange(t *testing.T) {
	far := append([]int{-1, -2, 33, 34, 256, 256 + 9}, farNumbers...)
	for k := range scriptSteps + 1 {
		_, _, pending := place(k)
		for _, keep := range keeps(pending) {
			for _, torn := range append([]int{pending, pending + 1}, far...) {
				for _, cut := range []int{0, 16, 32, math.MinInt, math.MaxInt} {
					game{60, script(), k, loss{keep, torn, cut}}.want(t, outcome(k, loss{keep, -1, 0}))
				}
			}
			for _, cut := range far {
				game{60, script(), k, loss{keep, 0, cut}}.want(t, outcome(k, loss{keep, 0, min(max(cut, 0), 32)}))
			}
		}
	}
}

// A Commit of as many pages as may be: what stands where is there, or is not, at each step.
func TestThePowerGoesInTheGreatestCommit(t *testing.T) {
	l := []api.Op{alloc(1000, 1), commit, free(1), alloc(700, 2), write(1, 0, counted(1, 700)), commit}
	wantSteps(t, 112, l, 6+2*23+4, api.OK)
	old, now := is([]api.Entry{entry(1, 288, 1000, 1)}), is([]api.Entry{entry(1, 288, 700, 2)})
	all := slices.Repeat([]bool{true}, 23)
	for k := range 2*23 + 4 {
		some := make([]bool, 23)
		for i := range some {
			some[i] = (i+k)%3 > 0
		}
		for _, x := range []loss{{nil, -1, 0}, {all, -1, 0}, {some, k % 23, k % 33}, {all, 22, k % 32}} {
			want := old
			isMark := k == 24 || k == 25
			isKept := len(x.keep) > 0 && x.keep[0]
			if x.torn == 0 {
				isKept = x.cut >= 29
			}
			if k > 25 || isMark && isKept {
				want = now
			}
			game{112, l, 6 + k, x}.want(t, want)
		}
	}
}

// What was in a Commit in which the power went is told as it was then, not as ops behind it would have it.
func TestTheCommitInWhichThePowerWent(t *testing.T) {
	l := append(script()[:5], free(1), commit, alloc(2, 9), unset("main"), sweep, commit, abort, free(2), pack, commit)
	states := scriptStates()
	for k := range 6 {
		want := states[2]
		if k > 3 {
			want = states[3]
		}
		game{60, l, 14 + k, loss{nil, -1, 0}}.want(t, want)
	}
}
