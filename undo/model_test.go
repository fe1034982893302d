package undo_test

import (
	"math/rand"
	"testing"
)

// deed does one drawn call on the Heap, whether or not it is a right one.
func (s *bench) deed(r *rand.Rand, sizes int) {
	s.t.Helper()
	h := s.heap
	if r.Intn(2) == 0 {
		h = s.undo.Heap()
	}
	handle := r.Intn(42)
	switch r.Intn(6) {
	case 0, 1:
		h.Alloc(r.Intn(sizes), r.Intn(17))
	case 2:
		h.Free(handle)
	default:
		h.Write(handle, r.Intn(sizes)-1, counted(r.Intn(255), r.Intn(sizes)))
	}
	s.now = s.heap.Bytes() // what a call does to a Heap is no matter of an Undo
}

// step does one drawn call on the Undo, and tells what it was.
func (s *bench) step(r *rand.Rand) string {
	s.t.Helper()
	mark := r.Intn(s.last+4) - 1
	_, isOne := s.then[mark]
	switch {
	case r.Intn(3) == 0:
		s.mark()
		return "mark"
	case isOne && r.Intn(3) == 0:
		s.back(mark)
		s.whole()
		s.forget()
		return "back"
	case isOne:
		s.wantChanges(mark, differing(s.then[mark], s.now))
		return "changes"
	}
	s.noMark(mark)
	return "none"
}

// forget drops the images of marks that are none any more, so that then has just those that are.
func (s *bench) forget() {
	last := s.marks[len(s.marks)-1]
	for m := range s.then {
		if m > last {
			delete(s.then, m)
		}
	}
}

// Drawn calls, one behind the other, on the Heap and on its Undo: behind each of them all is told as images that were kept by hand tell it.
func TestDrawnCalls(t *testing.T) {
	r := rand.New(rand.NewSource(11))
	did := map[string]int{}
	for _, start := range [][]byte{make([]byte, 288), laid(300), some(), laid(640), full()} {
		for _, sizes := range []int{5, 30, 200} {
			s := benchOf(t, start)
			for range 60 {
				for range r.Intn(5) {
					s.deed(r, sizes)
				}
				s.want("drawn calls on the Heap")
				did[s.step(r)]++
			}
			s.noOthers()
		}
	}
	for _, what := range []string{"mark", "back", "changes", "none"} {
		if did[what] < 40 {
			t.Errorf("%s was drawn %d times: the drawn calls do not ask enough", what, did[what])
		}
	}
}
