package play_test

import (
	"math"
	"slices"
	"testing"

	"vaultkeel/api"
	"vaultkeel/play"
)

// What was committed last is there, what was done behind it is not.
func TestPlay(t *testing.T) {
	states := scriptStates()
	whole(60, script()...).want(t, states[3])
	whole(60, script()[:8]...).want(t, states[3])
	whole(60, script()[:7]...).want(t, states[2])
	whole(60, script()[:5]...).want(t, states[2])
	whole(60, script()[:4]...).want(t, states[1])
	whole(60, script()[:2]...).want(t, states[1])
	whole(60, script()[:1]...).want(t, states[0])
	whole(60, append(script(), commit)...).want(t, is([]api.Entry{entry(1, 288, 3, 3), entry(2, 293, 20, 2)}))
}

func TestPlayOfNoOps(t *testing.T) {
	for _, n := range []int{57, 58, 60, 248, 249, 299, 300} {
		for _, fail := range []int{-1, 0, 1, 5, math.MaxInt, math.MinInt} {
			for _, x := range []loss{{nil, -1, 0}, {nil, 0, 9}, {[]bool{true, false, true}, 1, 31}} {
				game{n, nil, fail, x}.want(t, is(nil))
				game{n, []api.Op{}, fail, x}.want(t, is(nil))
			}
		}
	}
}

// Each op does what it does in a script, too: what stands where shows it.
func TestPlayOfEachOp(t *testing.T) {
	laid := []api.Op{alloc(10, 0), alloc(20, 1), alloc(30, 2), set("b", 3), set("a", 1), write(3, 0, []byte{2, 0})}
	all := []api.Entry{entry(1, 288, 10, 0), entry(2, 298, 20, 1), entry(3, 318, 30, 2)}
	roots := []api.Root{{Name: "b", Handle: 3}, {Name: "a", Handle: 1}}
	behind := func(ops ...api.Op) game { return whole(60, slices.Concat(laid, ops)...) }
	behind().want(t, is(nil))
	behind(commit).want(t, is(all, roots...))
	behind(sweep, commit).want(t, is(all, roots...))
	behind(abort, commit).want(t, is(nil))
	behind(commit, abort, commit).want(t, is(all, roots...))
	behind(unset("a"), sweep, commit).want(t, is(all[1:], roots[0]))
	behind(unset("a"), sweep, pack, commit).want(t, is([]api.Entry{entry(2, 288, 20, 1), all[2]}, roots[0]))
	behind(unset("a"), sweep, pack, pack, commit).want(t, is([]api.Entry{entry(2, 288, 20, 1), entry(3, 308, 30, 2)}, roots[0]))
	behind(unset("a"), sweep, pack, pack, pack, commit).want(t, is([]api.Entry{entry(2, 288, 20, 1), entry(3, 308, 30, 2)}, roots[0]))
	behind(write(3, 0, []byte{0, 9}), sweep, commit).want(t, is([]api.Entry{all[0], all[2]}, roots...))
	behind(free(2), commit).want(t, is([]api.Entry{all[0], all[2]}, roots...))
	behind(free(1), free(3), commit).want(t, is(all, roots...))
	behind(unset("b"), set("c", 2), commit).want(t, is(all, api.Root{Name: "c", Handle: 2}, roots[1]))
	behind(set("b", 2), commit).want(t, is(all, api.Root{Name: "b", Handle: 2}, roots[1]))
	behind(commit, unset("b"), unset("a"), sweep, abort, pack, commit).want(t, is(all, roots...))
}

// An op's error does not end the script.
func TestPlayGoesOnBehindErrors(t *testing.T) {
	wrong := []api.Op{
		{}, {What: 10}, {What: -1}, {What: math.MaxInt}, {What: math.MinInt},
		alloc(0, 0), alloc(1001, 0), alloc(1, 16), alloc(1000, 0),
		free(0), free(41), free(9), write(0, 0, nil), write(9, 0, nil), write(1, math.MaxInt, []byte{1}),
		set("", 1), set("A", 1), set("a", 0), set("a", 9), unset(""), unset("nobody"),
	}
	var l []api.Op
	for _, o := range script() {
		l = slices.Concat(l, wrong[:10], []api.Op{o}, wrong[10:])
		if len(l) > 150 {
			break
		}
	}
	whole(60, l...).want(t, scriptStates()[2])
	for i, o := range wrong {
		whole(60, o, alloc(5, 1), o, commit, o).want(t, scriptStates()[1])
		wantSteps(t, 60, []api.Op{o, alloc(5, 1), o, commit, o}, 6, api.OK)
		if t.Failed() {
			t.Fatalf("of the wrong op %d", i)
		}
	}
}

// A Commit of too many keeps nothing, and the script goes on.
func TestPlayGoesOnBehindACommitOfTooMany(t *testing.T) {
	l := []api.Op{alloc(1000, 1), commit, write(1, 0, counted(1, 1000)), alloc(7, 7), commit}
	one, two := entry(1, 288, 1000, 1), entry(2, 1288, 7, 7)
	whole(112, l...).want(t, is([]api.Entry{one}))
	whole(112, append(l, abort, alloc(9, 9), commit)...).want(t, is([]api.Entry{one, entry(2, 1288, 9, 9)}))
	whole(112, append(l, write(1, 0, make([]byte, 500)), commit)...).want(t, is([]api.Entry{one, two}))
}

// Behind an op in which the power went others go on, in memory alone: nothing of it is there.
func TestPlayGoesOnWithThePowerGone(t *testing.T) {
	l := append(script()[:2], alloc(9, 9), commit, free(1), commit, abort, set("a", 1), commit, sweep, pack, commit)
	two := is([]api.Entry{entry(1, 288, 5, 1), entry(2, 293, 9, 9)})
	for k := range 6 {
		want := scriptStates()[1]
		if k >= 4 {
			want = two
		}
		game{60, l, 6 + k, loss{nil, -1, 0}}.want(t, want)
	}
}

// wantNoPlay asks for an error of both, and nothing beside it.
func wantNoPlay(t *testing.T, g game, told api.Errno) {
	t.Helper()
	g.want(t, answer{nil, nil, told})
	wantSteps(t, g.n, g.l, 0, told)
	entries, roots, _ := play.Play(g.n, g.l, g.fail, g.keep, g.torn, g.cut)
	if entries != nil || roots != nil {
		t.Errorf("%d sectors: got %v, %v beside the error", g.n, entries, roots)
	}
}

// wrongSectors are numbers of which no Store can be made: too few, or refused by chapter 2.
func wrongSectors() []int {
	l := append([]int{0, -1, -60, 301, 302, 1000, 256 + 60, 1<<16 + 60}, farNumbers...)
	for n := 1; n < 57; n++ {
		l = append(l, n)
	}
	return l
}

func TestPlayOfWrongSectors(t *testing.T) {
	for _, n := range wrongSectors() {
		wantNoPlay(t, whole(n, script()...), api.ErrRange)
		wantNoPlay(t, whole(n), api.ErrRange)
		wantNoPlay(t, game{n, nil, 0, loss{[]bool{true}, 0, 7}}, api.ErrRange)
	}
}

// as gives so many ops, which make an object and keep it, at the very last.
func as(n int) []api.Op {
	return append(slices.Repeat([]api.Op{abort}, n-2), alloc(5, 1), commit)
}

func TestPlayOfManyOps(t *testing.T) {
	for _, n := range []int{199, 200} {
		whole(60, as(n)...).want(t, scriptStates()[1])
		wantSteps(t, 60, as(n), 6, api.OK)
	}
	for _, n := range []int{201, 202, 400, 1000, 70000} {
		wantNoPlay(t, whole(60, as(n)...), api.ErrFull)
		wantNoPlay(t, game{60, make([]api.Op, n), 0, loss{nil, 0, 0}}, api.ErrFull)
	}
}

// Too many ops are told first.
func TestPlayOfManyOpsAndWrongSectors(t *testing.T) {
	for _, n := range wrongSectors() {
		wantNoPlay(t, whole(n, as(201)...), api.ErrFull)
		wantNoPlay(t, whole(n, as(200)...), api.ErrRange)
	}
}

// As many Commits as there may be: each of one page, on either side in turn.
func TestPlayOfManyCommits(t *testing.T) {
	var l []api.Op
	for i := range 100 {
		l = append(l, alloc(1, 0), commit)
		if i%2 == 1 {
			l[len(l)-2] = free(1)
		}
	}
	wantSteps(t, 60, l, 100*6, api.OK)
	for k := range 600 {
		done := k / 6
		if k%6 > 3 {
			done++
		}
		want := is(nil)
		if done%2 == 1 {
			want = is([]api.Entry{entry(1, 288, 1, 0)})
		}
		game{60, l, k, loss{nil, -1, 0}}.want(t, want)
	}
	whole(60, l...).want(t, is(nil))
	whole(60, l[:198]...).want(t, is([]api.Entry{entry(1, 288, 1, 0)}))
}

// All handles and all roots come out, by handle and by place.
func TestPlayOfAllThatMayBe(t *testing.T) {
	var l []api.Op
	var entries []api.Entry
	var roots []api.Root
	for i := range 40 {
		l = append(l, alloc(1+i, i%16))
		entries = append(entries, entry(1+i, 288+i*(i+1)/2, 1+i, i%16))
	}
	for i := range 8 {
		name := string(slices.Repeat([]byte{byte('h' - i)}, 8-i))
		l = append(l, set(name, 40-i))
		roots = append(roots, api.Root{Name: name, Handle: 40 - i})
	}
	l = append(l, commit)
	whole(83, l...).want(t, is(entries, roots...))
	whole(300, l...).want(t, is(entries, roots...))
	wantSteps(t, 300, l, 2*9+4, api.OK)
}

// With no room behind Head there is never an object.
func TestPlayOnTheLeastDevice(t *testing.T) {
	whole(57, alloc(1, 1), set("a", 1), commit).want(t, is(nil))
	whole(58, alloc(32, 1), set("a", 1), commit).want(t, is([]api.Entry{entry(1, 288, 32, 1)}, api.Root{Name: "a", Handle: 1}))
	whole(58, alloc(33, 1), set("a", 1), commit).want(t, is(nil))
}

// What is on the greatest device: 200 pages, whether or not there are more sectors.
func TestPlayOnTheGreatestDevice(t *testing.T) {
	var l []api.Op
	var want []api.Entry
	for i := range 6 {
		l = append(l, alloc(1000, i))
		want = append(want, entry(1+i, 288+1000*i, 1000, i))
	}
	l = append(l, alloc(113, 0), alloc(112, 15), write(7, 111, []byte{1}), commit)
	want = append(want, entry(7, 6288, 112, 15))
	for _, n := range []int{248, 249, 300} {
		whole(n, l...).want(t, is(want))
	}
	l[7] = alloc(81, 15)
	whole(247, l...).want(t, is(want[:6]))
}
