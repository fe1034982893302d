package undo_test

import (
	"slices"
	"testing"

	"vaultkeel/api"
	"vaultkeel/heap"
	"vaultkeel/plain"
	"vaultkeel/undo"
)

func TestNewHasNoMark(t *testing.T) {
	for _, b := range [][]byte{make([]byte, 288), laid(289), some(), full()} {
		s := benchOf(t, b)
		s.noOthers()
		s.noMark(1)
		s.noMark(2)
		s.noMark(3)
	}
}

func TestHeapIsTheOneThatWasGiven(t *testing.T) {
	h, err := heap.New(400)
	if err != nil {
		t.Fatal(err)
	}
	u := undo.New(h)
	if u.Heap() != h || u.Heap() != h {
		t.Fatal("Heap is not the one that New was given")
	}
	if got, err := h.Alloc(9, 3); got != 1 || err != nil {
		t.Fatalf("Alloc: got %d, %v", got, err)
	}
	if got, err := u.Heap().Size(1); got != 9 || err != nil {
		t.Errorf("what was done is not seen through the Undo: Size: got %d, %v", got, err)
	}
	if err := u.Heap().Write(1, 4, []byte("abc")); err != nil {
		t.Fatal(err)
	}
	if got, err := h.Read(1, 3, 5); string(got) != "\x00abc\x00" || err != nil {
		t.Errorf("what was done through the Undo is not seen: Read: got %q, %v", got, err)
	}
}

// What was done ahead of New is no matter of the Undo.
func TestNewOfAHeapInUse(t *testing.T) {
	h, err := heap.New(400)
	if err != nil {
		t.Fatal(err)
	}
	for _, n := range []int{10, 20, 30} {
		if _, err := h.Alloc(n, 1); err != nil {
			t.Fatal(err)
		}
	}
	s := benchWith(t, h)
	s.mark()
	s.free(2)
	s.write(3, 318, 0, counted(5, 30))
	s.back(1)
	s.whole()
}

func TestMarksAreNumberedFromOneOn(t *testing.T) {
	s := benchOf(t, some())
	for range 40 { // more than so many that a map would tell them in order by chance
		s.mark() // with nothing done between
		s.noMark(s.last + 1)
	}
	s.noOthers()
	s.back(40)
	s.back(17)
	s.mark()
	s.mark()
	s.back(41)
	s.noOthers()
}

func TestMarkNeverGivesANumberAnew(t *testing.T) {
	s := benchOf(t, laid(400))
	s.mark()
	s.back(1)
	s.mark() // 2, whether or not it went back
	s.mark()
	s.back(1)
	s.noMark(2)
	s.noMark(3)
	s.mark() // 4: 2 and 3 were given
	s.back(4)
	s.back(1)
	s.mark()
	if s.last != 5 || !slices.Equal(s.marks, []int{1, 5}) {
		t.Errorf("the marks are %v, the last of them %d", s.marks, s.last)
	}
	s.noOthers()
}

func TestMarkIsNoMatterOfWrongCalls(t *testing.T) {
	s := benchOf(t, some())
	s.noOthers()
	s.mark() // 1: no wrong call took a number
	s.noOthers()
	s.mark()
	s.back(1)
	s.noOthers()
	s.mark()
}

func TestMarkKeepsWhatIsThen(t *testing.T) {
	s := benchOf(t, some())
	s.mark()
	s.write(2, 330, 0, counted(7, 20)) // in place
	s.mark()
	s.write(2, 330, 3, counted(90, 9))
	s.mark()
	s.free(7)
	s.mark()
	s.alloc(3, 2, 1, 288)
	s.wantChanges(4, []api.Change{{At: 0, Old: []byte{0, 0, 0, 0}, New: []byte{3, 32, 1, 3}}, {At: 288, Old: laid(400)[288:291], New: make([]byte, 3)}})
	s.back(4)
	s.back(3)
	s.back(2)
	s.back(1)
}

func TestTwoOfTheSameHeap(t *testing.T) {
	h, err := heap.Load(some())
	if err != nil {
		t.Fatal(err)
	}
	a, b := benchWith(t, h), benchWith(t, h)
	a.mark()
	a.mark()
	b.noMark(1)
	a.write(7, 289, 0, counted(3, 40))
	b.now = slices.Clone(a.now)
	b.mark() // numbered from 1 on, whatever the other one gave
	b.noMark(2)
	b.free(7)
	a.now = slices.Clone(b.now)
	a.want("Free through the other one")
	a.mark()
	a.back(1)
	b.now = slices.Clone(a.now) // it stands elsewhere, and its mark is still one
	b.want("Back of the other one")
	b.back(1)
	a.now = slices.Clone(b.now)
	a.want("Back of the other one")
	a.noMark(3)
	a.back(1)
}

func TestTwoOfTwoHeaps(t *testing.T) {
	a, b := benchOf(t, some()), benchOf(t, some())
	a.mark()
	b.want("Mark of another one")
	a.free(7)
	b.mark()
	b.write(2, 330, 0, counted(8, 20))
	a.want("calls on another one")
	a.back(1)
	b.want("Back of another one")
	b.noMark(2)
	b.back(1)
	a.want("Back of another one")
}

// A wrong call on the Heap changes nothing that is remembered.
func TestWrongCallsOnTheHeap(t *testing.T) {
	s := benchOf(t, some())
	s.mark()
	if _, err := s.heap.Alloc(41, 0); plain.Told(err) != api.ErrFull {
		t.Errorf("Alloc: %v", err)
	}
	if err := s.heap.Free(2); plain.Told(err) != api.ErrClash {
		t.Errorf("Free: %v", err)
	}
	if err := s.heap.Write(2, 19, []byte{1, 2}); plain.Told(err) != api.ErrShape {
		t.Errorf("Write: %v", err)
	}
	s.want("wrong calls")
	s.wantChanges(1, nil)
}
