package play_test

import (
	"bytes"
	"math/rand"
	"slices"
	"testing"

	"vaultkeel/api"
	"vaultkeel/play"
	"vaultkeel/store"
)

// entriesOf reads the entries of an image, byte by byte.
func entriesOf(b []byte) (l []api.Entry) {
	for handle := 1; handle <= 40; handle++ {
		if row := b[5*(handle-1):]; row[0] > 0 {
			l = append(l, entry(handle, int(row[1])+256*int(row[2]), int(row[3])+256*int(row[4]), int(row[0])-1))
		}
	}
	return l
}

// rootAt gives the root at a place; the empty one, if there is none.
func rootAt(b []byte, i int) api.Root {
	row := b[200+11*i:][:11]
	return api.Root{Name: string(bytes.TrimRight(row[:8], "\x00")), Handle: int(row[10])}
}

func rootsOf(b []byte) (l []api.Root) {
	for i := range 8 {
		if r := rootAt(b, i); r != (api.Root{}) {
			l = append(l, r)
		}
	}
	return l
}

// find gives the entry of a handle, or what is wrong with it.
func find(b []byte, handle int) (api.Entry, api.Errno) {
	if handle < 1 || handle > 40 {
		return api.Entry{}, api.ErrRange
	}
	for _, e := range entriesOf(b) {
		if e.Handle == handle {
			return e, api.OK
		}
	}
	return api.Entry{}, api.ErrNone
}

// ownersOf tells of each byte behind Head whose it is; 0: nobody's.
func ownersOf(b []byte) []int {
	owners := make([]int, len(b)-288)
	for _, e := range entriesOf(b) {
		for i := range e.Extent.Len {
			owners[e.Extent.At-288+i] = e.Handle
		}
	}
	return owners
}

// shortestRun tells where the shortest run of n free bytes or more begins, the first of equal ones; 0: there is none.
func shortestRun(b []byte, n int) int {
	owners := append(ownersOf(b), -1)
	at, best, length := 0, 0, 0
	for i, owner := range owners {
		if owner == 0 {
			length++
			continue
		}
		if length >= n && (at == 0 || length < best) {
			at, best = 288+i-length, length
		}
		length = 0
	}
	return at
}

func allocated(b []byte, n, tag int) ([]byte, api.Errno) {
	if n < 1 || n > 1000 || tag < 0 || tag > 15 {
		return b, api.ErrRange
	}
	handle := 1
	for handle <= 40 && b[5*(handle-1)] > 0 {
		handle++
	}
	at := shortestRun(b, n)
	if handle > 40 || at == 0 {
		return b, api.ErrFull
	}
	return object(replaced(b, at, make([]byte, n)...), handle, tag+1, at, n), api.OK
}

func freed(b []byte, handle int) ([]byte, api.Errno) {
	if _, told := find(b, handle); told != api.OK {
		return b, told
	}
	if slices.ContainsFunc(rootsOf(b), func(r api.Root) bool { return r.Handle == handle }) {
		return b, api.ErrClash
	}
	return object(b, handle, 0, 0, 0), api.OK
}

func written(b []byte, handle, at int, body []byte) ([]byte, api.Errno) {
	e, told := find(b, handle)
	if told != api.OK {
		return b, told
	}
	if at < 0 || at > e.Extent.Len || at+len(body) > e.Extent.Len {
		return b, api.ErrShape
	}
	return replaced(b, e.Extent.At+at, body...), api.OK
}

// drawnNames are those of which an op is drawn: more than there are places, and some that are none.
var drawnNames = []string{"a", "b", "ab", "abcdefgh", "c", "d", "main", "mains", "zzzzzzzz", "q", "", "abcdefghi", "A"}

func isName(name string) bool { return slices.Contains(drawnNames[:10], name) }

// lead gives an image in which a name leads to a handle; 0: to nobody.
func lead(b []byte, name string, handle int) ([]byte, api.Errno) {
	if !isName(name) {
		return b, api.ErrSyntax
	}
	if _, told := find(b, handle); handle != 0 && told != api.OK {
		return b, told
	}
	place := -1
	for i := 7; i >= 0; i-- {
		if r := rootAt(b, i); r.Name == name || r.Name == "" && handle != 0 && (place < 0 || rootAt(b, place).Name != name) {
			place = i
		}
	}
	switch {
	case place >= 0 && handle == 0:
		return rooted(b, place, "", 0), api.OK
	case place >= 0:
		return rooted(b, place, name, handle), api.OK
	case handle == 0:
		return b, api.ErrNone
	}
	return b, api.ErrFull
}

// packed gives an image in which the first object ahead of which a byte is free has moved.
func packed(b []byte) []byte {
	at := 0
	for i, owner := range ownersOf(b) {
		if owner == 0 && at == 0 {
			at = 288 + i
		}
		if owner != 0 && at != 0 {
			e, _ := find(b, owner)
			body := b[e.Extent.At:][:e.Extent.Len]
			return object(replaced(b, at, body...), owner, e.Tag+1, at, e.Extent.Len)
		}
	}
	return b
}

// swept gives an image without those to whom nobody leads.
func swept(b []byte) []byte {
	isLive := map[int]int{}
	for _, r := range rootsOf(b) {
		isLive[r.Handle] = 1
	}
	for was := -1; was != len(isLive); {
		was = len(isLive)
		for _, e := range entriesOf(b) {
			for i := 0; isLive[e.Handle] == 1 && i < min(e.Tag, e.Extent.Len); i++ {
				if _, told := find(b, int(b[e.Extent.At+i])); told == api.OK {
					isLive[int(b[e.Extent.At+i])] = 1
				}
			}
		}
	}
	for _, e := range entriesOf(b) {
		if isLive[e.Handle] == 0 {
			b = object(b, e.Handle, 0, 0, 0)
		}
	}
	return b
}

// changed gives what an op that is none of a Store's makes of an image.
func changed(b []byte, o api.Op) ([]byte, api.Errno) {
	switch o.What {
	case 1:
		return allocated(b, o.Len, o.At)
	case 2:
		return freed(b, o.Handle)
	case 3:
		return written(b, o.Handle, o.At, o.Body)
	case 4:
		if o.Handle == 0 && isName(o.Name) {
			return b, api.ErrRange
		}
		return lead(b, o.Name, o.Handle)
	case 5:
		return lead(b, o.Name, 0)
	case 8:
		return packed(b), api.OK
	case 9:
		return swept(b), api.OK
	}
	return b, api.ErrRange
}

// model of a Store, of its device, and of how it goes when the power goes.
type model struct {
	now, kept, went []byte // went: what a Commit in which the power went was to keep
	left            int    // steps
	steps           int    // all that were done
	goneAt          int    // the step of that Commit
	isDown          bool
}

func newModel(n, fail int) *model {
	b := make([]byte, 32*min(n-48, 200))
	return &model{now: b, kept: b, left: fail}
}

func (m *model) do(o api.Op) (told api.Errno) {
	switch o.What {
	case 6:
		return m.commit()
	case 7:
		m.now = m.kept
		return api.OK
	}
	m.now, told = changed(m.now, o)
	return told
}

func (m *model) commit() api.Errno {
	pages := len(differing(m.kept, m.now))
	steps := 2*pages + 4
	switch {
	case pages > 23:
		return api.ErrFull
	case m.isDown:
		return api.ErrLost
	case pages == 0:
		return api.OK
	case m.left >= 0 && m.left < steps:
		m.isDown, m.went, m.goneAt = true, m.now, m.left
		return api.ErrLost
	}
	if m.left >= 0 {
		m.left -= steps
	}
	m.steps += steps
	m.kept = m.now
	return api.OK
}

// opened gives the image that is there behind a crash: ahead of the mark the one that was kept, behind it the one that was to be; if the mark alone is pending, what becomes of it tells.
func (m *model) opened(x loss) []byte {
	if !m.isDown {
		return m.kept
	}
	pages := len(differing(m.kept, m.went))
	isThere := m.goneAt > pages+2
	if m.goneAt == pages+1 || m.goneAt == pages+2 {
		isThere = len(x.keep) > 0 && x.keep[0]
		if x.torn == 0 {
			isThere = x.cut >= 29
		}
	}
	if isThere {
		return m.went
	}
	return m.kept
}

// weights are ops from which is drawn: all alike, many roots, and few Commits of much.
func weights() [][]int {
	return [][]int{
		{1, 1, 1, 1, 2, 3, 3, 3, 3, 4, 4, 5, 6, 6, 6, 7, 8, 8, 9},
		{1, 1, 1, 4, 4, 4, 4, 4, 4, 4, 6, 6, 8},
		{1, 1, 1, 3, 3, 3, 3, 3, 3, 3, 4, 6},
	}
}

// drawnOp draws one that is often right, as a Store stands.
func drawnOp(r *rand.Rand, b []byte, whats []int) api.Op {
	handle := r.Intn(50) - 5
	if l := entriesOf(b); len(l) > 0 && r.Intn(5) > 0 {
		handle = l[r.Intn(len(l))].Handle
	}
	size := []int{8, 60, 300, 1001}[r.Intn(4)]
	e, _ := find(b, handle)
	o := api.Op{Handle: handle, At: r.Intn(17), Len: r.Intn(size) + 1, Name: drawnNames[r.Intn(13)], Body: make([]byte, r.Intn(min(size, e.Extent.Len+1)+1))}
	o.What = whats[r.Intn(len(whats))]
	if r.Intn(20) == 0 {
		o.What = r.Intn(14) - 2
	}
	if o.What == 3 {
		o.At = r.Intn(max(e.Extent.Len-len(o.Body), 0)+3) - 1
	}
	if r.Intn(30) == 0 {
		o.At, o.Len = r.Intn(40)-20, 0
	}
	for i := range o.Body {
		o.Body[i] = byte(r.Intn(43))
	}
	return o
}

// drawnScript draws ops that are done to a Store one behind the other, and holds each against the model.
func drawnScript(t *testing.T, r *rand.Rand, n, length, fail int, did map[[2]int]int) (l []api.Op) {
	t.Helper()
	d := made(t, n)
	s, err := store.Create(d)
	wantTold(t, "Create", err, api.OK)
	d.Fail(fail)
	m, whats := newModel(n, fail), weights()[r.Intn(3)]
	for range length {
		o := drawnOp(r, m.now, whats)
		l = append(l, o)
		told := m.do(o)
		wantTold(t, "Do", play.Do(s, o), told)
		if !bytes.Equal(s.Heap().Bytes(), m.now) || t.Failed() {
			t.Fatalf("%d sectors, fail %d, %v: Do: the Heap has another image, in pages %v", n, fail, l, differing(s.Heap().Bytes(), m.now))
		}
		did[[2]int{min(max(o.What, 0), 10), int(told)}]++
	}
	return l
}

func drawnLoss(r *rand.Rand) loss {
	keep := make([]bool, r.Intn(8))
	for i := range keep {
		keep[i] = r.Intn(2) == 0
	}
	return loss{keep, r.Intn(5) - 1, r.Intn(36) - 2}
}

// Drawn scripts, of which the power goes at drawn steps: what comes out is what the model tells.
func TestDrawnScripts(t *testing.T) {
	r := rand.New(rand.NewSource(17))
	did := map[[2]int]int{}
	for _, n := range []int{57, 58, 60, 80, 112, 300} {
		for range 40 {
			l := drawnScript(t, r, n, r.Intn(201), []int{-1, r.Intn(100)}[r.Intn(2)], did)
			all := newModel(n, -1)
			for _, o := range l {
				all.do(o)
			}
			wantSteps(t, n, l, all.steps, api.OK)
			for i := range 12 {
				fail := []int{-1, 0, all.steps - 1, all.steps, all.steps + 1, r.Intn(all.steps + 1)}[min(i, 5)]
				g := game{n, l, fail, drawnLoss(r)}
				m := newModel(n, fail)
				for _, o := range l {
					m.do(o)
				}
				b := m.opened(g.loss)
				g.want(t, is(entriesOf(b), rootsOf(b)...))
			}
		}
	}
	wantDrawn(t, did)
}

// wantDrawn asks that each op, and each of its errors, was drawn.
func wantDrawn(t *testing.T, did map[[2]int]int) {
	t.Helper()
	for _, c := range [][]int{{0, 1}, {1, 0, 1, 4}, {2, 0, 1, 5, 7}, {3, 0, 1, 3, 5}, {4, 0, 1, 2, 4, 5}, {5, 0, 2, 5}, {6, 0, 4, 9}, {7, 0}, {8, 0}, {9, 0}, {10, 1}} {
		for _, told := range c[1:] {
			if got := did[[2]int{c[0], told}]; got < 20 {
				t.Errorf("op %d with %v was drawn %d times: the drawn scripts do not ask enough", c[0], api.Errno(told), got)
			}
		}
	}
}
