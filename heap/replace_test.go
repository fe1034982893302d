package heap_test

import (
	"bytes"
	"slices"
	"testing"

	"vaultkeel/api"
	"vaultkeel/heap"
	"vaultkeel/plain"
)

// tryReplace hands an image to Replace; behind the call the bytes that were handed in are written over.
func (s *bench) tryReplace(b []byte) error {
	s.t.Helper()
	part, whole := around(b)
	before := slices.Clone(whole)
	err := s.heap.Replace(part)
	if !bytes.Equal(whole, before) {
		s.t.Error("Replace wrote into what it was given")
	}
	fill(whole, 98)
	return err
}

func (s *bench) replace(b []byte) {
	s.t.Helper()
	if err := s.tryReplace(b); err != nil {
		s.t.Fatalf("Replace by %d bytes: %v", len(b), err)
	}
	s.now = slices.Clone(b)
	s.want("Replace")
}

func (s *bench) noReplace(b []byte, want api.Errno) {
	s.t.Helper()
	for range 2 {
		if err := s.tryReplace(b); plain.Told(err) != want {
			s.t.Errorf("Replace by %d bytes: got %v; want %v", len(b), err, want)
		}
		s.want("Replace with an error")
	}
}

func TestReplaceHasTheObjectsOfTheOther(t *testing.T) {
	s := newBench(t, 400)
	s.alloc(9, 3, 1, 288)
	s.replace(some())
	b := some()
	s.nothing(1, api.ErrNone)
	for _, o := range []struct{ handle, tag, at, size int }{{2, 0, 330, 20}, {7, 15, 289, 40}, {40, 4, 351, 49}} {
		s.tag(o.handle, o.tag)
		s.size(o.handle, o.size)
		s.read(o.handle, 0, b[o.at:o.at+o.size])
	}
	s.noFree(2, api.ErrClash)
	s.noFree(40, api.ErrClash)
	s.free(7)
	s.alloc(41, 1, 1, 288)
	s.write(2, 330, 0, counted(9, 20))
	s.replace(laid(400))
	s.nothing(2, api.ErrNone)
	s.alloc(112, 2, 1, 288)
}

func TestReplaceByTheSame(t *testing.T) {
	for _, b := range [][]byte{make([]byte, 288), some(), full()} {
		s := benchOf(t, b)
		s.replace(b)
		s.replace(s.heap.Bytes())
	}
}

func TestReplaceByAnotherLength(t *testing.T) {
	s := benchOf(t, some())
	for _, n := range []int{0, 1, 287, 288, 399, 401, 6400, 6401} {
		s.noReplace(make([]byte, n), api.ErrShape)
		s.noReplace(bytes.Repeat([]byte{7}, n), api.ErrShape) // no right image either: the length is told first
	}
	s.noReplace(nil, api.ErrShape)
}

func TestReplaceByOneThatIsNotRight(t *testing.T) {
	s := benchOf(t, some())
	for _, b := range [][]byte{
		object(some(), 1, 1, 287, 2),
		object(some(), 1, 1, 340, 2),
		object(some(), 1, 0, 1, 0),
		object(some(), 40, 0, 0, 0),
		root(some(), 0, "main", 2),
		root(some(), 0, "A", 2),
	} {
		s.noReplace(b, api.ErrState)
	}
}

func TestReplaceIsSeenByWhoeverHoldsTheHeap(t *testing.T) {
	s := newBench(t, 400)
	held := []*heap.Heap{s.heap, s.heap}
	s.replace(some())
	for _, h := range held {
		if got, err := h.Size(7); got != 40 || err != nil {
			t.Errorf("Size: got %d, %v; want 40", got, err)
		}
	}
	other := benchOf(t, some())
	s.write(7, 289, 0, counted(3, 40))
	other.want("Write to another one")
}
