package reach_test

import (
	"testing"

	"vaultkeel/api"
	"vaultkeel/heap"
	"vaultkeel/undo"
)

func TestAHeapThatNewMade(t *testing.T) {
	h, err := heap.New(400)
	if err != nil {
		t.Fatal(err)
	}
	s := &bench{t: t, heap: h, now: make([]byte, 400)}
	s.live()
	s.sweep()
	s.alloc(2, 2, 1)
	s.live()
	s.set("main", 1)
	s.live(1)
	s.alloc(1, 1, 2)
	s.dead(2)
	s.write(1, 1, 2)
	s.live(1, 2)
	s.path(1, 2)
	s.refs(1, 2)
}

func TestBehindAWrite(t *testing.T) {
	s := benchOf(t, laid(400, []int{1}, thing{1, 2, []byte{2, 0, 0}}, leaf(2), names(3, 4), leaf(4)))
	s.live(1, 2)
	s.write(1, 0, 3)
	s.refs(1, 3)
	s.live(1, 3, 4)
	s.path(1, 3, 4)
	s.write(1, 1, 4)
	s.refs(1, 3, 4)
	s.path(1, 4)
	s.write(1, 1, 2, 4)
	s.refs(1, 3, 2)
	s.live(1, 2, 3, 4)
	s.path(1, 3, 4)
	s.write(3, 0, 2)
	s.live(1, 2, 3)
	s.write(1, 0, 0, 0)
	s.live(1)
	s.dead(2, 3, 4)
	s.sweep(2, 3, 4)
}

func TestBehindAnAlloc(t *testing.T) {
	s := benchOf(t, laid(400, []int{1}, names(1, 2, 3)))
	s.refs(1)
	s.live(1)
	s.alloc(3, 3, 2) // it is named as soon as it is there
	s.refs(1, 2)
	s.live(1, 2)
	s.alloc(3, 3, 3)
	s.refs(1, 2, 3)
	s.path(1, 3)
	s.alloc(1, 0, 4)
	s.dead(4)
	s.write(2, 2, 4)
	s.path(1, 2, 4)
	s.sweep()
}

func TestBehindAFree(t *testing.T) {
	s := benchOf(t, laid(400, []int{1}, names(1, 2, 3), names(2, 4), names(3, 5), names(4, 6), names(5, 6), leaf(6)))
	s.path(1, 2, 4, 6)
	s.free(2) // it was live: that no root leads to it is enough
	s.refs(1, 3)
	s.live(1, 3, 5, 6)
	s.path(1, 3, 5, 6)
	s.noPath(2, api.ErrNone)
	s.noRefs(2, api.ErrNone)
	s.free(6)
	s.refs(5)
	s.live(1, 3, 5)
	s.sweep(4)
}

func TestBehindASetAndAnUnset(t *testing.T) {
	s := benchOf(t, laid(400, nil, names(1, 2), names(2, 3), leaf(3), names(4, 3)))
	s.live()
	s.set("main", 1)
	s.path(1, 2, 3)
	s.live(1, 2, 3)
	s.set("main", 4) // elsewhere
	s.live(3, 4)
	s.path(4, 3)
	s.set("b", 2)
	s.live(2, 3, 4)
	s.path(2, 3)
	s.unset("b")
	s.path(4, 3)
	s.set("b", 3)
	s.path(3)
	s.unset("main")
	s.live(3)
	s.unset("b")
	s.live()
	s.dead(1, 2, 3, 4)
	s.set("main", 1)
	s.sweep(4)
}

func TestBehindAnUndoThatGoesBack(t *testing.T) {
	first := laid(400, []int{1}, names(1, 2), names(2, 3), leaf(3), names(4, 4))
	s := benchOf(t, first)
	u := undo.New(s.heap)
	mark := u.Mark()
	s.sweep(4)
	s.write(1, 0, 3)
	s.live(1, 3)
	s.sweep(2)
	second, swept := u.Mark(), s.heap.Bytes()
	s.unset("h")
	s.sweep(1, 3)
	s.back(u, second, swept)
	s.live(1, 3)
	s.path(1, 3)
	s.noPath(2, api.ErrNone)
	s.back(u, mark, first)
	s.live(1, 2, 3)
	s.dead(4)
	s.path(1, 2, 3)
	s.refs(4, 4)
	s.sweep(4)
}

// back asks that an Undo brings back an image that is told here.
func (s *bench) back(u *undo.Undo, mark int, then []byte) {
	s.t.Helper()
	if err := u.Back(mark); err != nil {
		s.t.Fatalf("Back(%d): %v", mark, err)
	}
	s.now = then
	s.want("Back")
}

// Two Heaps of one image go their own ways.
func TestTwoHeapsOfOneImage(t *testing.T) {
	b := laid(400, []int{1}, names(1, 2), leaf(2), leaf(3))
	one, other := benchOf(t, b), benchOf(t, b)
	one.sweep(3)
	other.live(1, 2)
	other.dead(3)
	other.write(1, 0, 3)
	one.path(1, 2)
	other.path(1, 3)
	other.sweep(2)
	one.live(1, 2)
}
