package diff_test

import (
	"bytes"
	"slices"
	"testing"

	"vaultkeel/api"
	"vaultkeel/diff"
	"vaultkeel/plain"
)

// seq gives n bytes of which none is as the one beside it.
func seq(n int) []byte {
	b := make([]byte, n)
	for i := range b {
		b[i] = byte(i*7 + i/256)
	}
	return b
}

// with gives a copy of b with other bytes from at on.
func with(b []byte, at int, row ...byte) []byte {
	return slices.Concat(b[:at], row, b[at+len(row):])
}

// other gives a copy of b in which the bytes at some places are others.
func other(b []byte, places ...int) []byte {
	out := slices.Clone(b)
	for _, i := range places {
		out[i] ^= 128
	}
	return out
}

// change makes one of texts.
func change(at int, from, to string) api.Change {
	return api.Change{At: at, Old: []byte(from), New: []byte(to)}
}

// changes gives a list of them.
func changes(l ...api.Change) []api.Change { return l }

// between tells the change from a to b of the bytes from at on, up to end.
func between(a, b []byte, at, end int) api.Change {
	return api.Change{At: at, Old: a[at:end], New: b[at:end]}
}

// around gives b as a part of a greater list, so that what is read or written about it is told.
func around(b []byte, about byte) (part, whole []byte) {
	odd := bytes.Repeat([]byte{about}, 70)
	whole = slices.Concat(odd, b, odd)
	return whole[len(odd) : len(odd)+len(b)], whole
}

// given is a list of changes of which each list is a part of a greater one.
type given struct {
	list   []api.Change
	row    []api.Change // list, and what stands about it
	wholes [][]byte
}

func give(l []api.Change) given {
	odd := changes(change(-7, "odd", "o"), change(3, "", "odd"))
	g := given{row: slices.Concat(odd, l, odd)}
	g.list = g.row[len(odd) : len(odd)+len(l)]
	for i, c := range g.list {
		old, one := around(c.Old, 203)
		now, two := around(c.New, 204)
		g.list[i].Old, g.list[i].New = old, now
		g.wholes = append(g.wholes, one, two)
	}
	return g
}

// copied gives all that was given, in memory of its own.
func (g given) copied() given {
	c := given{row: copies(g.row)}
	for _, w := range g.wholes {
		c.wholes = append(c.wholes, slices.Clone(w))
	}
	return c
}

// isAs tells whether what was given is as it was when it was copied.
func (g given) isAs(before given) bool {
	return sameChanges(g.row, before.row) && slices.EqualFunc(g.wholes, before.wholes, bytes.Equal)
}

// spoil writes over all of it.
func (g given) spoil() {
	for _, w := range g.wholes {
		fill(w, 97)
	}
	clear(g.row)
}

func copies(l []api.Change) []api.Change {
	var out []api.Change
	for _, c := range l {
		out = append(out, api.Change{At: c.At, Old: slices.Clone(c.Old), New: slices.Clone(c.New)})
	}
	return out
}

func sameChanges(a, b []api.Change) bool {
	return slices.EqualFunc(a, b, func(x, y api.Change) bool {
		return x.At == y.At && bytes.Equal(x.Old, y.Old) && bytes.Equal(x.New, y.New)
	})
}

func fill(b []byte, c byte) {
	for i := range b {
		b[i] = c
	}
}

// wantOwn asks that no two of the lists of changes share memory: each is filled, behind its length too, and keeps what it was filled with.
func wantOwn(t *testing.T, what string, l []api.Change) {
	t.Helper()
	var lists [][]byte
	for _, c := range l {
		lists = append(lists, c.Old[:cap(c.Old)], c.New[:cap(c.New)])
	}
	for i, b := range lists {
		fill(b, byte(i%251))
	}
	for i, b := range lists {
		if slices.ContainsFunc(b, func(c byte) bool { return c != byte(i%251) }) {
			t.Errorf("%s: the list %d shares memory with another one", what, i)
			return
		}
	}
	clear(l[:cap(l)])
}

// wantDiff asks for what Diff says of two lists: fresh memory, and nothing is written into.
func wantDiff(t *testing.T, a, b []byte, want []api.Change) {
	t.Helper()
	one, wholeOne := around(a, 201)
	two, wholeTwo := around(b, 202)
	beforeOne, beforeTwo := slices.Clone(wholeOne), slices.Clone(wholeTwo)
	isKept := func() bool { return bytes.Equal(wholeOne, beforeOne) && bytes.Equal(wholeTwo, beforeTwo) }
	want = copies(want)
	got, err := diff.Diff(one, two)
	if err != nil || !sameChanges(got, want) {
		t.Errorf("Diff of %d bytes: got %v, %v; want %v", len(a), got, err, want)
		return
	}
	again, _ := diff.Diff(one, two)
	if !isKept() {
		t.Error("Diff wrote into what it was given")
	}
	wantOwn(t, "Diff", got)
	if !isKept() {
		t.Error("what Diff gave is a part of what it was given")
	}
	fill(wholeOne, 98)
	fill(wholeTwo, 99)
	if !sameChanges(again, want) {
		t.Error("what Diff gave changed with what it was given, or with what it gave ahead")
	}
}

// wantNoDiff asks Diff for an error, and nothing beside it.
func wantNoDiff(t *testing.T, a, b []byte, want api.Errno) {
	t.Helper()
	one, wholeOne := around(a, 201)
	two, wholeTwo := around(b, 202)
	beforeOne, beforeTwo := slices.Clone(wholeOne), slices.Clone(wholeTwo)
	got, err := diff.Diff(one, two)
	if len(got) != 0 || plain.Told(err) != want {
		t.Errorf("Diff of %d and %d bytes: got %d changes, %v; want none, %v", len(a), len(b), len(got), err, want)
	}
	if !bytes.Equal(wholeOne, beforeOne) || !bytes.Equal(wholeTwo, beforeTwo) {
		t.Error("Diff wrote into what it was given")
	}
}

// wantApplied asks for what Apply makes of b: fresh memory, and nothing is written into.
func wantApplied(t *testing.T, b []byte, l []api.Change, want []byte) {
	t.Helper()
	part, whole := around(b, 201)
	g := give(l)
	before, beforeList := slices.Clone(whole), g.copied()
	isKept := func() bool { return bytes.Equal(whole, before) && g.isAs(beforeList) }
	want = slices.Clone(want)
	got, err := diff.Apply(part, g.list)
	if err != nil || !bytes.Equal(got, want) {
		t.Errorf("Apply of %d changes, the first ones %v, to %d bytes: got %d bytes, %v; want %d", len(l), l[:min(len(l), 3)], len(b), len(got), err, len(want))
		return
	}
	again, _ := diff.Apply(part, g.list)
	if !isKept() {
		t.Error("Apply wrote into what it was given")
	}
	fill(got[:cap(got)], 99)
	if !isKept() {
		t.Error("what Apply gave is a part of what it was given")
	}
	fill(whole, 98)
	g.spoil()
	if !bytes.Equal(again, want) {
		t.Error("what Apply gave changed with what it was given, or with what it gave ahead")
	}
}

// wantNotApplied asks Apply for an error, and nothing beside it.
func wantNotApplied(t *testing.T, b []byte, l []api.Change, want api.Errno) {
	t.Helper()
	part, whole := around(b, 201)
	g := give(l)
	before, beforeList := slices.Clone(whole), g.copied()
	got, err := diff.Apply(part, g.list)
	if len(got) != 0 || plain.Told(err) != want {
		t.Errorf("Apply of %d changes, the first ones %v, to %d bytes: got %d bytes, %v; want none, %v", len(l), l[:min(len(l), 3)], len(b), len(got), err, want)
	}
	if !bytes.Equal(whole, before) || !g.isAs(beforeList) {
		t.Error("Apply wrote into what it was given")
	}
}

// wantTurned asks for changes, turned, and turned back: fresh memory, and nothing is written into.
func wantTurned(t *testing.T, l, want []api.Change) {
	t.Helper()
	g := give(l)
	before := g.copied()
	l, want = copies(l), copies(want)
	got := diff.Turn(g.list)
	if !sameChanges(got, want) {
		t.Errorf("Turn of %v: got %v; want %v", l, got, want)
		return
	}
	if back := diff.Turn(got); !sameChanges(back, l) {
		t.Errorf("Turn of %v: turned once more %v", l, back)
	}
	again := diff.Turn(g.list)
	if !g.isAs(before) {
		t.Error("Turn wrote into what it was given")
	}
	wantOwn(t, "Turn", got)
	if !g.isAs(before) {
		t.Error("what Turn gave is a part of what it was given")
	}
	g.spoil()
	if !sameChanges(again, want) {
		t.Error("what Turn gave changed with what it was given, or with what it gave ahead")
	}
}

// wantPages asks for the pages of changes.
func wantPages(t *testing.T, l []api.Change, want ...int) {
	t.Helper()
	g := give(l)
	before := g.copied()
	got, err := diff.Pages(g.list)
	if err != nil || !slices.Equal(got, want) {
		t.Errorf("Pages of %d changes, the first at %d: got %v, %v; want %v", len(l), firstAt(l), got, err, want)
		return
	}
	again, _ := diff.Pages(g.list)
	clear(got[:cap(got)])
	if !slices.Equal(again, want) || !g.isAs(before) {
		t.Error("Pages gives what is not fresh, or wrote into what it was given")
	}
}

// wantNoPages asks Pages for ErrRange, and nothing beside it.
func wantNoPages(t *testing.T, l []api.Change) {
	t.Helper()
	g := give(l)
	before := g.copied()
	got, err := diff.Pages(g.list)
	if len(got) != 0 || plain.Told(err) != api.ErrRange {
		t.Errorf("Pages of %d changes, the first at %d: got %v, %v; want none, ErrRange", len(l), firstAt(l), got, err)
	}
	if !g.isAs(before) {
		t.Error("Pages wrote into what it was given")
	}
}

func firstAt(l []api.Change) int {
	if len(l) == 0 {
		return -1
	}
	return l[0].At
}
