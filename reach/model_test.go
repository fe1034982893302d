package reach_test

import (
	"bytes"
	"math/rand"
	"slices"
	"testing"

	"vaultkeel/api"
	"vaultkeel/heap"
	"vaultkeel/undo"
)

// net is who names whom, and to whom roots lead, read from an image by hand.
type net struct {
	refs  [41][]int
	first []int // to whom roots lead, rising
}

func netOf(b []byte) *net {
	w := &net{}
	objects := objectsOf(b)
	for _, handle := range objects {
		row := b[5*(handle-1):]
		at, size := int(row[1])+256*int(row[2]), int(row[3])+256*int(row[4])
		for i := 0; i < int(row[0])-1 && i < size; i++ {
			other := int(b[at+i])
			if slices.Contains(objects, other) && !slices.Contains(w.refs[handle], other) {
				w.refs[handle] = append(w.refs[handle], other)
			}
		}
	}
	for handle := 1; handle <= 40; handle++ {
		for i := range 8 {
			if int(b[210+11*i]) == handle && !slices.Contains(w.first, handle) {
				w.first = append(w.first, handle)
			}
		}
	}
	return w
}

// way tries all ways of a length, the lesser ones first, till one ends at an object.
func (w *net) way(length, handle int, next []int) []int {
	for _, on := range slices.Sorted(slices.Values(next)) {
		if length == 1 && on == handle {
			return []int{on}
		}
		if length > 1 {
			if rest := w.way(length-1, handle, w.refs[on]); rest != nil {
				return append([]int{on}, rest...)
			}
		}
	}
	return nil
}

// path tries ways of all lengths; none has more steps than there are objects.
func (w *net) path(handle, most int) []int {
	for length := 1; length <= most; length++ {
		if way := w.way(length, handle, w.first); way != nil {
			return way
		}
	}
	return nil
}

// asNet asks all of a Heap, and holds it against its net.
func (s *bench) asNet() {
	s.t.Helper()
	w, objects := netOf(s.now), objectsOf(s.now)
	var live []int
	for _, handle := range objects {
		s.refs(handle, w.refs[handle]...)
		if way := w.path(handle, len(objects)); way != nil {
			live = append(live, handle)
			s.path(way...)
		}
	}
	s.live(live...)
}

// swept asks that a Sweep of a copy leaves those alone that have a way.
func (s *bench) swept() {
	s.t.Helper()
	w, objects := netOf(s.now), objectsOf(s.now)
	dead := slices.DeleteFunc(slices.Clone(objects), func(handle int) bool { return w.path(handle, len(objects)) != nil })
	copied := benchOf(s.t, s.now)
	copied.sweep(dead...)
	copied.asNet()
}

// All Heaps of three objects, whoever names whom, and whomever roots lead to.
func TestEveryHeapOfThree(t *testing.T) {
	handles := []int{2, 7, 40}
	pick := func(bits int) []int {
		var l []int
		for i, handle := range handles {
			if bits>>i&1 != 0 {
				l = append([]int{handle}, l...) // falling, so that their order is not that of handles
			}
		}
		return l
	}
	for bits := range 1 << 12 {
		var things []thing
		for i, handle := range handles {
			o := thing{handle: handle, body: []byte{0}}
			for _, other := range pick(bits >> (3 * i)) {
				o.body = append(o.body, byte(other))
			}
			o.tag = len(o.body)
			things = append(things, o)
		}
		s := benchOf(t, laid(320, pick(bits>>9), things...))
		s.asNet()
		s.swept()
	}
}

// drawnThings gives n objects that name others by drawn bytes, some with bytes that nobody has as a handle, some with a tag that is less or more than their bytes.
func drawnThings(r *rand.Rand, n, most int) []thing {
	var l []thing
	for _, i := range r.Perm(40)[:n] {
		l = append(l, thing{handle: i + 1, tag: r.Intn(most + 1), body: make([]byte, 1+r.Intn(most+2))})
	}
	for _, o := range l {
		for i := range o.body {
			o.body[i] = byte(r.Intn(256))
			if r.Intn(5) > 0 {
				o.body[i] = byte(l[r.Intn(n)].handle)
			}
		}
	}
	return l
}

func TestDrawnHeaps(t *testing.T) {
	r := rand.New(rand.NewSource(13))
	for range 2000 {
		n := 1 + r.Intn(10)
		things := drawnThings(r, n, 1+r.Intn(4))
		leads := make([]int, r.Intn(9))
		for i := range leads {
			if r.Intn(3) == 0 {
				leads[i] = things[r.Intn(n)].handle
			}
		}
		s := benchOf(t, laid(400, leads, things...))
		s.asNet()
		s.swept()
	}
}

// Objects in rows, each of which names some of the next row, in a drawn order: many ways are as short.
func TestDrawnRows(t *testing.T) {
	r := rand.New(rand.NewSource(14))
	const rows, wide = 5, 3
	for range 500 {
		var things []thing
		handles := r.Perm(40)[:rows*wide]
		for i, handle := range handles {
			o := thing{handle: handle + 1, body: []byte{0}}
			next := (i/wide + 1) * wide
			for _, j := range r.Perm(wide)[:1+r.Intn(wide)] {
				if next < len(handles) {
					o.body = append(o.body, byte(handles[next+j]+1))
				}
			}
			o.tag = len(o.body)
			things = append(things, o)
		}
		leads := make([]int, 8)
		for _, place := range r.Perm(8)[:1+r.Intn(4)] {
			leads[place] = handles[r.Intn(wide)] + 1
		}
		s := benchOf(t, laid(400, leads, things...))
		s.asNet()
		s.swept()
	}
}

// step does one drawn thing with a Heap of few objects, and tells what it was.
func (s *bench) step(r *rand.Rand, u *undo.Undo, marks map[int][]byte) string {
	s.t.Helper()
	handle, name := 1+r.Intn(7), rootNames[r.Intn(3)]
	isObject := slices.Contains(objectsOf(s.now), handle)
	isRoot := bytes.Contains(s.now[200:288], append([]byte(name), 0))
	switch r.Intn(9) {
	case 0, 1:
		if len(objectsOf(s.now)) >= 7 {
			return "nothing"
		}
		if _, err := s.heap.Alloc(1+r.Intn(3), 1+r.Intn(3)); err != nil {
			s.t.Fatalf("Alloc: %v", err)
		}
		s.now = s.heap.Bytes()
		return "alloc"
	case 2:
		if !isObject || slices.Contains(netOf(s.now).first, handle) {
			return "nothing"
		}
		s.free(handle)
		return "free"
	case 3, 4:
		if !isObject {
			return "nothing"
		}
		s.write(handle, 0, byte(r.Intn(8)))
		return "write"
	case 5:
		if !isObject {
			return "nothing"
		}
		s.set(name, handle)
		return "set"
	case 6:
		if !isRoot {
			return "nothing"
		}
		s.unset(name)
		return "unset"
	case 7:
		if r.Intn(2) == 0 {
			marks[u.Mark()] = s.heap.Bytes()
			return "mark"
		}
		mark := 1 + r.Intn(len(marks)+1)
		if marks[mark] == nil || u.Back(mark) != nil {
			return "nothing"
		}
		s.now = slices.Clone(marks[mark])
		s.want("Back")
		return "back"
	}
	w, objects := netOf(s.now), objectsOf(s.now)
	s.sweep(slices.DeleteFunc(objects, func(handle int) bool { return w.path(handle, 7) != nil })...)
	return "sweep"
}

// Drawn calls, one behind the other: behind each of them all is as in the image that is there then.
func TestDrawnCalls(t *testing.T) {
	r := rand.New(rand.NewSource(31))
	did := map[string]int{}
	for range 12 {
		h, err := heap.New(320)
		if err != nil {
			t.Fatal(err)
		}
		s := &bench{t: t, heap: h, now: make([]byte, 320)}
		u, marks := undo.New(h), map[int][]byte{}
		for range 800 {
			did[s.step(r, u, marks)]++
			s.asNet()
			s.noRefs(41, api.ErrRange)
		}
	}
	for _, what := range []string{"alloc", "free", "write", "set", "unset", "mark", "back", "sweep"} {
		if did[what] < 50 {
			t.Errorf("%s was drawn %d times: the drawn calls do not ask enough", what, did[what])
		}
	}
}
