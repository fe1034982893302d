package move_test

import (
	"bytes"
	"testing"

	"vaultkeel/api"
	"vaultkeel/diff"
	"vaultkeel/heap"
	"vaultkeel/reach"
	"vaultkeel/undo"
)

func TestAHeapThatNewMade(t *testing.T) {
	h, err := heap.New(400)
	if err != nil {
		t.Fatal(err)
	}
	s := &bench{t: t, heap: h, now: make([]byte, 400)}
	s.all(0)
	s.alloc(10, 3, 1, 288)
	s.noStep()
	s.alloc(20, 4, 2, 298)
	s.write(2, 0, 1, 2, 3, 4, 5, 6, 7, 8, 9, 10, 11, 12, 13, 14, 15, 16, 17, 18, 19, 20)
	s.free(1)
	s.step(2, 288)
	s.noStep()
}

func TestBehindAnAlloc(t *testing.T) {
	s := benchOf(t, laid(400, thing{5, 298, 10}, thing{4, 313, 87})) // free: 10 and 5
	s.gain(5)
	s.alloc(5, 1, 1, 308) // in the shorter run
	s.gain(0)
	s.alloc(3, 1, 2, 288)
	s.step(5, 291)
	s.step(1, 301)
	s.step(4, 306)
	s.noStep()
	s.alloc(7, 1, 3, 393)
	s.all(0)
}

func TestBehindAFree(t *testing.T) {
	s := benchOf(t, full())
	s.noStep()
	s.free(40) // the first one: three bytes
	s.gain(0)
	s.free(1) // the last one: a thousand
	s.gain(3)
	s.step(39, 288)
	s.free(39) // where it stands now
	s.step(38, 288)
	s.free(20)
	s.gain(19)
	s.all(35)
	s.alloc(1000, 2, 1, 5381)
	s.noAlloc(20, api.ErrFull)
	s.alloc(19, 2, 20, 6381)
}

func TestBehindAWrite(t *testing.T) {
	s := benchOf(t, laid(400, thing{5, 300, 6}, thing{4, 310, 6}))
	s.write(5, 0, 1, 2, 3, 4, 5, 6)
	s.step(5, 288)
	s.wantRead(5, []byte{1, 2, 3, 4, 5, 6})
	s.write(5, 4, 7, 8)
	s.write(4, 0, 9, 8)
	s.step(4, 294)
	s.wantRead(5, []byte{1, 2, 3, 4, 7, 8})
	s.write(4, 2, 1, 1, 1, 1)
	s.all(0)
	s.wantRead(4, []byte{9, 8, 1, 1, 1, 1})
}

func TestBehindASweep(t *testing.T) {
	b := lead(laid(400, thing{1, 288, 4}, thing{2, 292, 4}, thing{3, 296, 4}, thing{4, 300, 4}), 0, "main", 2)
	b = replaced(b, 292, 4, 0, 0, 0) // 2 names 4
	s := benchOf(t, b)
	s.noStep()
	s.gain(0)
	if n, err := reach.Sweep(s.heap); n != 2 || err != nil {
		t.Fatalf("Sweep: got %d, %v; want 2", n, err)
	}
	s.now = object(object(s.now, 1, 0, 0, 0), 3, 0, 0, 0)
	s.gain(8) // 4, 4 and 96
	s.step(2, 288)
	s.step(4, 292)
	s.noStep()
	s.unset("main")
	if n, err := reach.Sweep(s.heap); n != 2 || err != nil {
		t.Fatalf("Sweep: got %d, %v; want 2", n, err)
	}
	s.now = object(object(s.now, 2, 0, 0, 0), 4, 0, 0, 0)
	s.all(0)
}

func TestBehindASetAndAnUnset(t *testing.T) {
	s := benchOf(t, laid(400, thing{5, 300, 6}, thing{4, 310, 6}))
	s.set("main", 4)
	s.step(5, 288)
	s.set("main", 5)
	s.set("b", 4)
	s.all(1)
	s.unset("main")
	s.all(0)
	s.free(5)
	s.step(4, 288)
	s.noStep()
}

// back asks that an Undo brings back an image that is told here.
func (s *bench) back(u *undo.Undo, mark int, then []byte) {
	s.t.Helper()
	if err := u.Back(mark); err != nil {
		s.t.Fatalf("Back(%d): %v", mark, err)
	}
	s.now = bytes.Clone(then)
	s.want("Back")
}

func TestBehindAnUndoThatGoesBack(t *testing.T) {
	s := benchOf(t, some())
	u := undo.New(s.heap)
	mark := u.Mark()
	said := tells(s.heap)
	s.all(3)
	s.back(u, mark, some())
	s.wantSame("Back", said, some())
	s.gain(2)
	s.step(7, 288)
	second, then := u.Mark(), s.heap.Bytes()
	s.free(7)
	s.step(2, 288)
	s.all(1)
	s.back(u, second, then)
	s.gain(1)
	s.step(2, 328)
	s.back(u, mark, some())
	s.all(3)
	s.back(u, mark, some())
	s.step(7, 288) // what Back gave the Heap is not the mark's own
	s.back(u, mark, some())
}

// A mark from ahead of All tells just what is another one, and leads back over it.
func TestChangesOverAll(t *testing.T) {
	for _, b := range [][]byte{some(), many(2), laid(400, thing{3, 300, 10})} {
		s := benchOf(t, b)
		u := undo.New(s.heap)
		mark := u.Mark()
		want, n := closer(b)
		s.all(n)
		l, err := u.Changes(mark)
		if err != nil {
			t.Fatal(err)
		}
		if len(l) <= api.MaxList { // Apply takes no more
			got, err := diff.Apply(b, l)
			if err != nil || !bytes.Equal(got, want) {
				t.Errorf("what has changed since the mark does not lead to what is there now: %v", err)
			}
		}
		s.back(u, mark, b)
		s.all(n)
		s.back(u, mark, b)
		if l, err := u.Changes(mark); len(l) != 0 || err != nil {
			t.Errorf("Changes behind Back: got %d, %v; want none", len(l), err)
		}
	}
}

// The Heap that an Undo tells is the one that it remembers.
func TestOfTheHeapThatAnUndoTells(t *testing.T) {
	s := benchOf(t, some())
	u := undo.New(s.heap)
	mark := u.Mark()
	own := &bench{t: t, heap: u.Heap(), now: s.now}
	own.all(3)
	s.now = own.now
	s.want("All of the Heap that the Undo tells")
	s.back(u, mark, some())
	own.now = some()
	own.step(7, 288)
}

// Gain, and a Step that moves nothing, are nothing that an Undo could tell.
func TestNoChangesWhereNothingMoves(t *testing.T) {
	s := benchOf(t, many(0))
	u := undo.New(s.heap)
	mark := u.Mark()
	s.gain(0)
	s.noStep()
	s.all(0)
	if l, err := u.Changes(mark); len(l) != 0 || err != nil {
		t.Errorf("Changes: got %d, %v; want none", len(l), err)
	}
}

// Two Heaps of one image go their own ways.
func TestTwoHeapsOfOneImage(t *testing.T) {
	one, other := benchOf(t, some()), benchOf(t, some())
	one.all(3)
	other.want("All of another one")
	other.gain(2)
	other.step(7, 288)
	other.write(7, 0, 1, 2, 3)
	one.want("Step and Write of another one")
	one.free(7)
	other.all(2)
	one.all(2)
}

// What Bytes gave ahead of a move is the caller's.
func TestBytesOfOldStay(t *testing.T) {
	s := benchOf(t, some())
	was := s.heap.Bytes()
	s.all(3)
	if !bytes.Equal(was, some()) {
		t.Error("what Bytes gave ahead of All has changed with it")
	}
	for i := range was {
		was[i] = 99
	}
	s.want("writing over what Bytes gave")
}
