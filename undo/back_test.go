package undo_test

import (
	"testing"

	"vaultkeel/api"
	"vaultkeel/heap"
	"vaultkeel/plain"
)

func TestBackOfWhatWasAllocated(t *testing.T) {
	s := benchOf(t, laid(400)) // bytes that nobody has are others than 0, and Alloc clears them
	s.mark()
	s.alloc(9, 3, 1, 288)
	s.alloc(103, 15, 2, 297)
	s.back(1)
	s.whole()
	s.alloc(112, 0, 1, 288) // there is room again
	s.back(1)
}

func TestBackOfWhatWasFreed(t *testing.T) {
	s := benchOf(t, some())
	s.mark()
	s.free(7)
	s.back(1)
	s.whole()
	s.free(7)
	s.alloc(30, 2, 1, 288) // over where it stood
	s.write(1, 288, 0, counted(1, 30))
	s.back(1)
	s.whole()
}

func TestBackOfWhatWasWritten(t *testing.T) {
	s := benchOf(t, some())
	s.mark()
	s.write(2, 330, 0, counted(1, 20))
	s.write(7, 289, 39, []byte{200})
	s.write(40, 351, 48, []byte{200}) // the last byte of the image
	s.back(1)
	s.whole()
}

// The bytes that a freed object left are nobody's, and come back, too.
func TestBackHasBytesThatNobodyHas(t *testing.T) {
	s := benchOf(t, make([]byte, 400))
	s.alloc(10, 1, 1, 288)
	s.write(1, 288, 0, counted(70, 10))
	s.free(1)
	s.mark() // no object, but ten bytes are others than 0
	s.alloc(4, 1, 1, 288)
	s.alloc(108, 1, 2, 292)
	s.mark()
	s.free(1)
	s.free(2)
	s.back(2)
	s.back(1)
	if got := s.heap.Bytes()[288:298]; string(got) != string(counted(70, 10)) {
		t.Errorf("what was left where an object stood is %v", got)
	}
	s.whole()
}

func TestBackWithNothingDone(t *testing.T) {
	for _, b := range [][]byte{make([]byte, 288), some(), full()} {
		s := benchOf(t, b)
		s.mark()
		s.back(1)
		s.back(1)
		s.mark()
		s.mark()
		s.back(2)
		s.back(2)
		s.back(1)
		s.whole()
		s.noOthers()
	}
}

func TestBackTwiceToTheSame(t *testing.T) {
	s := benchOf(t, some())
	s.mark()
	s.write(2, 330, 5, counted(7, 10))
	s.back(1)
	s.write(2, 330, 5, counted(9, 10)) // what Back gave the Heap is not the mark's own
	s.write(40, 351, 0, counted(9, 49))
	s.back(1)
	s.free(7)
	s.back(1)
	s.back(1)
	s.whole()
}

func TestBackToAnEarlyOneAndOn(t *testing.T) {
	s := benchOf(t, some())
	s.mark() // 1
	s.free(7)
	s.mark() // 2
	s.alloc(41, 3, 1, 288)
	s.mark() // 3
	s.write(1, 288, 0, counted(30, 41))
	s.mark()  // 4
	s.back(2) // 3 and 4 are none
	s.alloc(5, 4, 1, 288)
	s.mark() // 5
	s.write(1, 288, 1, counted(60, 4))
	s.mark() // 6
	s.write(1, 288, 1, counted(61, 4))
	s.back(5)
	s.alloc(36, 5, 3, 293)
	s.back(2)
	s.back(1)
	s.free(7)
	s.mark() // 7
	s.back(7)
	s.back(1)
	s.whole()
	s.noOthers()
}

func TestBackKeepsTheMarksAhead(t *testing.T) {
	for to := 1; to <= 6; to++ {
		s := benchOf(t, make([]byte, 400))
		for i := range 6 {
			s.mark()
			s.alloc(4, i, i+1, 288+4*i)
			s.write(i+1, 288+4*i, 0, counted(20*i, 4))
		}
		s.back(to)
		if len(s.undo.Marks()) != to {
			t.Errorf("behind Back(%d): Marks: %v", to, s.undo.Marks())
		}
		for m := to; m >= 1; m-- {
			s.back(m)
		}
	}
}

func TestBackToNone(t *testing.T) {
	s := benchOf(t, some())
	s.noOthers()
	s.mark()
	s.free(7)
	s.noOthers()
	s.mark()
	s.mark()
	s.alloc(9, 3, 1, 288)
	s.noOthers()
	s.back(2)
	s.noMark(3)
	s.write(2, 330, 0, counted(7, 20))
	s.noMark(3) // none any more, and it is not taken for the one ahead of it
	s.noMark(4) // one more than the last
	s.mark()
	s.noMark(3)
	s.back(4)
	s.back(1)
	s.noOthers()
}

// Roots are bytes of the image as all others: they come back, and hold what they lead to.
func TestBackWithRoots(t *testing.T) {
	s := benchOf(t, some())
	s.mark()
	s.free(7)
	s.back(1)
	for _, handle := range []int{2, 40} {
		if err := s.heap.Free(handle); plain.Told(err) != api.ErrClash {
			t.Errorf("Free(%d), to which a root leads: %v", handle, err)
		}
	}
	without := root(root(some(), 1, "", 0), 6, "", 0)
	s.become(without)
	s.mark()
	s.free(2)
	s.free(40)
	s.become(root(s.now, 0, "new", 7))
	s.back(2)
	s.free(7) // no root leads to it now
	s.back(1)
	s.free(7)
	if err := s.heap.Free(40); plain.Told(err) != api.ErrClash {
		t.Errorf("Free of one to which a root leads again: %v", err)
	}
	s.want("Free with an error")
}

func TestBackOfAFullOne(t *testing.T) {
	s := benchOf(t, full())
	s.mark()
	for _, handle := range []int{1, 2, 4, 5, 6, 7} {
		s.free(handle)
	}
	s.mark()
	s.alloc(1000, 9, 1, 288)
	s.back(1)
	s.whole()
	for handle := 1; handle <= 7; handle++ {
		n, err := s.heap.Size(handle)
		if err != nil {
			t.Fatal(err)
		}
		s.write(handle, 1000*handle-712, 0, make([]byte, n))
	}
	s.back(1)
	s.whole()
}

// A Heap that was brought back answers each call by the image that it has then.
func TestBackBringsAWholeHeap(t *testing.T) {
	s := benchOf(t, some())
	s.mark()
	s.free(7)
	s.alloc(20, 9, 1, 288)
	s.alloc(1, 9, 3, 350)
	s.back(1)
	s.whole()
	for _, handle := range []int{1, 3} {
		if err := s.heap.Write(handle, 0, []byte{1}); plain.Told(err) != api.ErrNone {
			t.Errorf("Write(%d): got %v; want ErrNone", handle, err)
		}
		if err := s.heap.Free(handle); plain.Told(err) != api.ErrNone {
			t.Errorf("Free(%d): got %v; want ErrNone", handle, err)
		}
	}
	if _, err := s.heap.Alloc(2, 0); plain.Told(err) != api.ErrFull {
		t.Errorf("Alloc where three single bytes are free: got %v; want ErrFull", err)
	}
	s.want("calls with an error")
	s.alloc(1, 4, 1, 288)
	s.write(7, 289, 0, counted(5, 40))
	s.free(7)
	s.alloc(40, 4, 3, 289)
	s.whole()
}

func TestBackIsSeenByWhoeverHoldsTheHeap(t *testing.T) {
	s := benchOf(t, some())
	held := []*heap.Heap{s.heap, s.undo.Heap()}
	s.mark()
	s.free(7)
	held = append(held, s.undo.Heap())
	s.back(1)
	held = append(held, s.undo.Heap())
	for i, h := range held {
		if got, err := h.Size(7); got != 40 || err != nil {
			t.Errorf("holder %d: Size: got %d, %v; want 40", i, got, err)
		}
		if err := h.Write(7, i, []byte{byte(240 + i)}); err != nil {
			t.Errorf("holder %d: Write: %v", i, err)
		}
	}
	for i, h := range held {
		if got, err := h.Read(7, 0, 4); string(got) != "\xf0\xf1\xf2\xf3" || err != nil {
			t.Errorf("holder %d: Read: got %v, %v", i, got, err)
		}
	}
}
