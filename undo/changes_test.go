package undo_test

import (
	"testing"

	"vaultkeel/api"
	"vaultkeel/diff"
)

func TestChangesOfNothing(t *testing.T) {
	for _, b := range [][]byte{make([]byte, 288), some(), full()} {
		s := benchOf(t, b)
		s.mark()
		s.wantChanges(1, nil)
		s.mark()
		s.wantChanges(1, nil)
		s.wantChanges(2, nil)
	}
}

func TestChangesOfWhatIsAsItWasAgain(t *testing.T) {
	s := benchOf(t, some())
	s.mark()
	was, err := s.heap.Read(2, 0, 20)
	if err != nil {
		t.Fatal(err)
	}
	s.write(2, 330, 0, was) // the same over the same
	s.wantChanges(1, nil)
	s.write(2, 330, 0, counted(3, 20))
	s.write(2, 330, 0, was)
	s.wantChanges(1, nil)
	s.alloc(1, 3, 1, 288)
	s.free(1)
	s.wantChanges(1, []api.Change{{At: 288, Old: some()[288:289], New: []byte{0}}}) // Alloc cleared a byte, and Free leaves it
	s.back(1)
	s.wantChanges(1, nil)
}

func TestChangesOfAnObject(t *testing.T) {
	s := benchOf(t, make([]byte, 640))
	s.mark()
	s.alloc(7, 3, 1, 288)
	s.wantChanges(1, []api.Change{{At: 0, Old: make([]byte, 4), New: []byte{4, 32, 1, 7}}})
	s.mark()
	s.write(1, 288, 0, []byte{9, 9, 0, 0, 9, 0, 9})
	head := api.Change{At: 0, Old: make([]byte, 4), New: []byte{4, 32, 1, 7}}
	runs := []api.Change{{At: 288, Old: []byte{0, 0}, New: []byte{9, 9}}, {At: 292, Old: []byte{0}, New: []byte{9}}, {At: 294, Old: []byte{0}, New: []byte{9}}}
	s.wantChanges(1, append([]api.Change{head}, runs...))
	s.wantChanges(2, runs)
	s.mark()
	s.wantChanges(3, nil)
	s.free(1)
	s.wantChanges(3, []api.Change{{At: 0, Old: []byte{4, 32, 1, 7}, New: make([]byte, 4)}})
	s.wantChanges(1, runs) // it is none again, but its bytes stay
}

// Where runs of several objects touch there is one: no two of them do.
func TestChangesOverObjects(t *testing.T) {
	s := benchOf(t, make([]byte, 1400))
	s.alloc(257, 0, 1, 288)
	s.alloc(258, 1, 2, 545)
	s.alloc(259, 2, 3, 803)
	s.mark()
	s.write(1, 288, 250, counted(1, 7))
	s.write(3, 803, 0, counted(9, 5))
	s.wantChanges(1, []api.Change{{At: 538, Old: make([]byte, 7), New: counted(1, 7)}, {At: 803, Old: make([]byte, 5), New: counted(9, 5)}})
	s.write(2, 545, 0, counted(8, 258))
	all := append(append(counted(1, 7), counted(8, 258)...), counted(9, 5)...)
	s.wantChanges(1, []api.Change{{At: 538, Old: make([]byte, 270), New: all}})
	s.back(1)
	s.free(1)
	s.free(2) // none of their ten bytes in the head was 0
	s.wantChanges(1, []api.Change{{At: 0, Old: []byte{1, 32, 1, 1, 1, 2, 33, 2, 2, 1}, New: make([]byte, 10)}})
}

func TestChangesAcrossTheEndOfTheHead(t *testing.T) {
	b := object(make([]byte, 288+64), 5, 1, 288, 64)
	s := benchOf(t, b)
	s.mark()
	s.write(5, 288, 0, []byte{3, 0, 4})
	s.become(root(s.now, 7, "a", 5))
	s.wantChanges(1, []api.Change{
		{At: 277, Old: []byte{0}, New: []byte{'a'}},
		{At: 287, Old: []byte{0, 0}, New: []byte{5, 3}},
		{At: 290, Old: []byte{0}, New: []byte{4}},
	})
	s.back(1)
}

func TestChangesOfTheFirstAndTheLastByte(t *testing.T) {
	s := benchOf(t, object(object(laid(400), 1, 3, 288, 100), 2, 3, 388, 12))
	s.mark()
	was := s.now
	s.write(2, 388, 11, []byte{0})
	s.become(object(s.now, 1, 7, 288, 100))
	s.wantChanges(1, []api.Change{{At: 0, Old: []byte{3}, New: []byte{7}}, {At: 399, Old: was[399:], New: []byte{0}}})
}

func TestChangesOfAnEarlyMarkAndALateOne(t *testing.T) {
	s := benchOf(t, some())
	was := some()
	s.mark()
	s.write(2, 330, 0, []byte{0})
	s.mark()
	s.write(2, 330, 0, []byte{255})
	s.mark()
	s.write(2, 330, 1, []byte{254})
	s.wantChanges(1, []api.Change{{At: 330, Old: was[330:332], New: []byte{255, 254}}})
	s.wantChanges(2, []api.Change{{At: 330, Old: []byte{0, was[331]}, New: []byte{255, 254}}})
	s.wantChanges(3, []api.Change{{At: 331, Old: was[331:332], New: []byte{254}}})
	s.back(2)
	s.wantChanges(1, []api.Change{{At: 330, Old: was[330:331], New: []byte{0}}})
	s.wantChanges(2, nil)
	s.noMark(3)
}

// As many as there may be: every other byte of all objects, far more than MaxList.
func TestChangesOfEveryOtherByte(t *testing.T) {
	s := benchOf(t, full())
	s.mark()
	b := full()
	for i := 288; i < len(b); i += 2 {
		b[i] = 0
	}
	for handle := 1; handle <= 7; handle++ {
		at := 1000*handle - 712
		s.write(handle, at, 0, b[at:min(at+1000, 6400)])
	}
	got, err := s.undo.Changes(1)
	if len(got) != 3056 || err != nil {
		t.Fatalf("Changes: got %d of them, %v; want 3056", len(got), err)
	}
	for i, c := range got {
		if c.At != 288+2*i || len(c.Old) != 1 || len(c.New) != 1 || c.Old[0] != full()[c.At] || c.New[0] != 0 {
			t.Fatalf("change %d is %v", i, c)
		}
	}
	for _, handle := range []int{1, 2, 4, 5, 6, 7} {
		s.free(handle)
	}
	s.back(1)
}

func TestChangesOfAllBytes(t *testing.T) {
	s := benchOf(t, full())
	s.mark()
	for handle := 1; handle <= 7; handle++ {
		at := 1000*handle - 712
		s.write(handle, at, 0, make([]byte, min(1000, 6400-at)))
	}
	s.wantChanges(1, []api.Change{{At: 288, Old: full()[288:], New: make([]byte, 6112)}})
	s.back(1)
}

// What Changes tells leads from the mark to now.
func TestChangesLeadFromTheMark(t *testing.T) {
	s := benchOf(t, some())
	s.mark()
	s.free(7)
	s.alloc(30, 2, 1, 288)
	s.write(1, 288, 4, counted(5, 20))
	l, err := s.undo.Changes(1)
	if err != nil || len(l) == 0 {
		t.Fatalf("Changes: got %v, %v", l, err)
	}
	there, err := diff.Apply(some(), l)
	if err != nil || string(there) != string(s.now) {
		t.Errorf("from the mark they do not lead to now: %v", err)
	}
	again, err := diff.Apply(s.now, diff.Turn(l))
	if err != nil || string(again) != string(some()) {
		t.Errorf("turned, they do not lead from now to the mark: %v", err)
	}
}

// What was given is the caller's: it stays as it was, whatever is done later, and no two lists share any.
func TestChangesAreFresh(t *testing.T) {
	s := benchOf(t, some())
	s.mark()
	s.write(2, 330, 2, counted(100, 9))
	s.write(40, 351, 0, counted(150, 9))
	kept, err := s.undo.Changes(1)
	if err != nil {
		t.Fatal(err)
	}
	want := differing(some(), s.now)
	s.write(2, 330, 0, make([]byte, 20))
	s.back(1)
	s.write(2, 330, 0, counted(1, 20))
	if !sameChanges(kept, want) {
		t.Errorf("what Changes gave is another one behind later calls: %v", kept)
	}
	for i := range kept {
		fill(kept[i].Old, 201)
		fill(kept[i].New, 202)
	}
	for _, c := range kept {
		for i := range c.Old {
			if c.Old[i] != 201 || c.New[i] != 202 {
				t.Fatal("two lists of an answer share memory")
			}
		}
	}
	s.want("writing over what Changes gave")
	marks := s.undo.Marks()
	s.mark()
	s.back(1)
	if len(marks) != 1 || marks[0] != 1 {
		t.Errorf("what Marks gave is another one behind later calls: %v", marks)
	}
}
