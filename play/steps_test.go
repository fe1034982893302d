package play_test

import (
	"slices"
	"testing"

	"vaultkeel/api"
)

func TestStepsOfNothing(t *testing.T) {
	for _, n := range []int{57, 58, 60, 248, 300} {
		wantSteps(t, n, nil, 0, api.OK)
		wantSteps(t, n, []api.Op{}, 0, api.OK)
		wantSteps(t, n, []api.Op{commit}, 0, api.OK)
		wantSteps(t, n, slices.Repeat([]api.Op{commit}, 200), 0, api.OK)
	}
}

// Just a Commit has steps.
func TestStepsOfOtherOps(t *testing.T) {
	l := []api.Op{alloc(9, 3), alloc(4, 1), write(1, 0, []byte{2, 3}), set("a", 1), unset("a"), free(2), alloc(2, 2), sweep, pack, abort, {}, {What: 10}, {What: -6}}
	for i := range l {
		wantSteps(t, 60, l[:i+1], 0, api.OK)
		wantSteps(t, 60, l[i:], 0, api.OK)
	}
}

// For each page two Writes, and with the mark one more, and three times Flush.
func TestStepsOfACommit(t *testing.T) {
	wantSteps(t, 60, []api.Op{alloc(9, 3), commit}, 2*1+4, api.OK)
	wantSteps(t, 60, []api.Op{alloc(9, 3), write(1, 0, []byte{1}), commit}, 2*2+4, api.OK)
	wantSteps(t, 60, []api.Op{alloc(9, 3), write(1, 0, []byte{1}), set("a", 1), commit}, 2*3+4, api.OK)
	wantSteps(t, 60, []api.Op{alloc(90, 3), write(1, 0, counted(1, 90)), set("a", 1), commit}, 2*5+4, api.OK)
	wantSteps(t, 60, []api.Op{alloc(90, 3), write(1, 0, make([]byte, 90)), commit}, 2*1+4, api.OK)
	wantSteps(t, 60, []api.Op{alloc(9, 3), free(1), commit}, 0, api.OK)
	wantSteps(t, 60, []api.Op{alloc(9, 3), abort, commit}, 0, api.OK)
	wantSteps(t, 60, []api.Op{alloc(9, 3), sweep, commit}, 0, api.OK)
}

// Of as many as may be committed at once, and of more: these say ErrFull, and have no steps.
func TestStepsOfManyPages(t *testing.T) {
	for _, n := range []int{112, 300} {
		for pages := 1; pages <= 31; pages++ {
			l := []api.Op{alloc(1000, 0), commit, write(1, 0, counted(1, 32*pages)), commit}
			want := 6 + 2*pages + 4
			if pages > 23 {
				want = 6
			}
			wantSteps(t, n, l, want, api.OK)
			wantSteps(t, n, append(l, abort, write(1, 999, []byte{1}), commit), want+6, api.OK)
		}
	}
	wantSteps(t, 112, []api.Op{alloc(1000, 0), write(1, 0, counted(1, 22*32)), commit}, 2*23+4, api.OK)
	wantSteps(t, 112, []api.Op{alloc(1000, 0), write(1, 0, counted(1, 22*32+1)), commit}, 0, api.OK)
}

// A script behind another one has the steps of both; a Commit once more none.
func TestStepsOfScripts(t *testing.T) {
	l := script()
	for i, want := range []int{0, 0, 6, 6, 6, 14, 14, 14, 22, 22, 22, 22} {
		wantSteps(t, 60, l[:i], want, api.OK)
	}
	wantSteps(t, 60, append(script(), commit), 22+2*3+4, api.OK) // 0, 6 and 9
	wantSteps(t, 60, append(script(), commit, commit), 22+2*3+4, api.OK)
	wantSteps(t, 60, append(script(), abort, commit), 22, api.OK)
	again := append(script(), free(2), unset("main"), sweep, write(1, 0, []byte{0}), commit) // all is none again, but what it had stays
	wantSteps(t, 60, again, 22+2*3+4, api.OK)
}

// In so many steps the power does not go any more: the last step of the script is the one ahead.
func TestStepsAreAsManyAsPlayNeeds(t *testing.T) {
	for i, k := range []int{6, 14, 22} {
		l := script()[:[]int{2, 5, 8}[i]]
		wantSteps(t, 60, l, k, api.OK)
		states := scriptStates()
		last := loss{nil, -1, 0}
		game{60, l, k, last}.want(t, states[i+1])
		game{60, l, k + 1, last}.want(t, states[i+1])
		ahead := k - scriptPages()[i] - 2 // at the mark's Flush, and with it lost
		game{60, l, ahead, last}.want(t, states[i])
		game{60, l, ahead + 1, last}.want(t, states[i+1])
	}
}
