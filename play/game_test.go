package play_test

import (
	"reflect"
	"slices"
	"testing"

	"vaultkeel/api"
	"vaultkeel/plain"
	"vaultkeel/play"
)

// loss is what a crash is told: which of what is pending are kept, which one is torn, and where.
type loss struct {
	keep      []bool
	torn, cut int
}

// game is what Play is told.
type game struct {
	n    int
	l    []api.Op
	fail int
	loss
}

// whole is a script of which the power does not go.
func whole(n int, l ...api.Op) game { return game{n, l, -1, loss{nil, -1, 0}} }

// roomy gives a copy of a list that has more behind its length in its memory: what would be told, were it read.
func roomy[T any](l []T, more ...T) []T { return slices.Concat(l, more)[:len(l)] }

// roomyOps gives a copy of ops, with their Bodies: behind their length there would be an object more, and it would be kept.
func roomyOps(l []api.Op) []api.Op {
	out := roomy(l, alloc(1, 1), commit)
	for i := range out {
		out[i].Body = roomy(out[i].Body, 201, 202, 203)
	}
	return out
}

// memory gives all that a script has, also what lies behind the lengths.
func memory(l []api.Op) (ops []api.Op, bodies [][]byte) {
	ops = slices.Clone(l[:cap(l)])
	for _, o := range ops {
		bodies = append(bodies, slices.Clone(o.Body[:cap(o.Body)]))
	}
	return ops, bodies
}

// answer of Play.
type answer struct {
	entries []api.Entry
	roots   []api.Root
	told    api.Errno
}

func (a answer) is(b answer) bool {
	return a.told == b.told && slices.Equal(a.entries, b.entries) && slices.Equal(a.roots, b.roots)
}

// play asks twice, with what came out first written over, and that what is handed in is as it was, also behind its length.
func (g game) play(t *testing.T) answer {
	t.Helper()
	l, keep := roomyOps(g.l), roomy(g.keep, true, true, true, true, true, true)
	ops, bodies := memory(l)
	kept := slices.Clone(keep[:cap(keep)])
	var out answer
	for k := range 2 {
		entries, roots, err := play.Play(g.n, l, g.fail, keep, g.torn, g.cut)
		got := answer{slices.Clone(entries), slices.Clone(roots), plain.Told(err)}
		if k > 0 && !got.is(out) {
			t.Fatalf("%+v: got %+v, and ahead %+v", g, got, out)
		}
		out = got
		for i := range entries[:cap(entries)] {
			entries[:cap(entries)][i] = api.Entry{Handle: 99, Tag: 99}
		}
		for i := range roots[:cap(roots)] {
			roots[:cap(roots)][i] = api.Root{Name: "written", Handle: 99}
		}
	}
	opsNow, bodiesNow := memory(l)
	if !reflect.DeepEqual(opsNow, ops) || !reflect.DeepEqual(bodiesNow, bodies) || !slices.Equal(keep[:cap(keep)], kept) {
		t.Fatalf("%+v: Play wrote into what it was given", g)
	}
	return out
}

// want asks for what is there behind it all.
func (g game) want(t *testing.T, want answer) {
	t.Helper()
	if got := g.play(t); !got.is(want) {
		t.Fatalf("%d sectors, %v, fail %d, %+v: got %+v, want %+v", g.n, g.l, g.fail, g.loss, got, want)
	}
}

// wantSteps asks twice, and that what is handed in is as it was.
func wantSteps(t *testing.T, n int, script []api.Op, want int, told api.Errno) {
	t.Helper()
	l := roomyOps(script)
	ops, bodies := memory(l)
	for range 2 {
		if got, err := play.Steps(n, l); got != want || plain.Told(err) != told {
			t.Fatalf("Steps(%d, %v): got %d, %v; want %d, %v", n, script, got, err, want, told)
		}
	}
	opsNow, bodiesNow := memory(l)
	if !reflect.DeepEqual(opsNow, ops) || !reflect.DeepEqual(bodiesNow, bodies) {
		t.Fatalf("Steps(%d, %v) wrote into what it was given", n, script)
	}
}

// is gives the answer of what there are, and no error.
func is(entries []api.Entry, roots ...api.Root) answer { return answer{entries, roots, api.OK} }

func entry(handle, at, n, tag int) api.Entry {
	return api.Entry{Handle: handle, Extent: api.Extent{At: at, Len: n}, Tag: tag}
}

// script has three Commits, of one page (0), of two (0 and 6) and of two (0 and 9), and something done behind them. states tells what is there behind each.
func script() []api.Op {
	return []api.Op{
		alloc(5, 1), commit,
		alloc(20, 2), set("main", 2), commit,
		free(1), write(2, 0, []byte{7}), commit,
		alloc(3, 3), unset("main"), write(2, 1, []byte{8}),
	}
}

// scriptPages tells how many pages the Commits of script have.
func scriptPages() []int { return []int{1, 2, 2} }

func scriptStates() []answer {
	return []answer{
		is(nil),
		is([]api.Entry{entry(1, 288, 5, 1)}),
		is([]api.Entry{entry(1, 288, 5, 1), entry(2, 293, 20, 2)}, api.Root{Name: "main", Handle: 2}),
		is([]api.Entry{entry(2, 293, 20, 2)}, api.Root{Name: "main", Handle: 2}),
	}
}

// scriptSteps is how many steps it has.
const scriptSteps = 6 + 8 + 8
