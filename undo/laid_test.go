package undo_test

import (
	"bytes"
	"math"
	"slices"
	"testing"

	"vaultkeel/api"
	"vaultkeel/heap"
	"vaultkeel/plain"
	"vaultkeel/undo"
)

// neverMarks are numbers that are no mark, whatever was marked.
var neverMarks = []int{0, -1, -2, 1 << 8, 1 << 16, 1 << 32, 1<<32 + 1, -1 << 32, math.MaxInt, math.MinInt, math.MinInt + 1}

// object gives a copy of b in which the five bytes of a handle are these.
func object(b []byte, handle, first, at, length int) []byte {
	return replaced(b, 5*(handle-1), byte(first), byte(at%256), byte(at/256), byte(length%256), byte(length/256))
}

// root gives a copy of b in which a root is at a place.
func root(b []byte, i int, name string, handle int) []byte {
	row := make([]byte, 11)
	copy(row, name)
	row[10] = byte(handle)
	return replaced(b, 200+11*i, row...)
}

// replaced gives a copy of b with other bytes from at on.
func replaced(b []byte, at int, row ...byte) []byte {
	return slices.Concat(b[:at], row, b[at+len(row):])
}

// laid gives an image of n bytes with nothing in it, but for bytes that nobody has, none of them 0.
func laid(n int) []byte {
	b := make([]byte, n)
	for i := 288; i < n; i++ {
		b[i] = byte(1 + i*37%255)
	}
	return b
}

// some gives an image of 400 bytes with three objects, a free byte ahead of each, and roots that lead to two of them.
func some() []byte {
	b := object(laid(400), 2, 1, 330, 20)
	b = object(b, 7, 16, 289, 40)
	b = object(b, 40, 5, 351, 49)
	b = root(b, 1, "main", 40)
	return root(b, 6, "b", 2)
}

// full gives an image of 6400 bytes whose first seven objects have all bytes, with a root at the last place.
func full() []byte {
	b := laid(6400)
	for handle := 1; handle <= 7; handle++ {
		b = object(b, handle, handle, 1000*handle-712, min(1000, 7112-1000*handle))
	}
	return root(b, 7, "eightlet", 3)
}

// counted gives n bytes that rise from c on, none of them 0.
func counted(c, n int) []byte {
	b := make([]byte, n)
	for i := range b {
		b[i] = byte(1 + (c+i)%255)
	}
	return b
}

func fill(b []byte, c byte) {
	for i := range b {
		b[i] = c
	}
}

// differing gives the changes that lead from a to b, byte by byte.
func differing(a, b []byte) []api.Change {
	var l []api.Change
	end := -1 // of the run ahead
	for i := range a {
		if a[i] == b[i] {
			continue
		}
		if end != i {
			l = append(l, api.Change{At: i})
		}
		c := &l[len(l)-1]
		c.Old, c.New = append(c.Old, a[i]), append(c.New, b[i])
		end = i + 1
	}
	return l
}

func sameChanges(a, b []api.Change) bool {
	return slices.EqualFunc(a, b, func(x, y api.Change) bool {
		return x.At == y.At && bytes.Equal(x.Old, y.Old) && bytes.Equal(x.New, y.New)
	})
}

// spoil writes over all that changes have, so that a later call tells if it was not fresh.
func spoil(l []api.Change) {
	l = l[:cap(l)]
	for i := range l {
		fill(l[i].Old[:cap(l[i].Old)], 97)
		fill(l[i].New[:cap(l[i].New)], 98)
		l[i] = api.Change{At: 99}
	}
}

// bench is an Undo and what it must have.
type bench struct {
	t     *testing.T
	heap  *heap.Heap
	undo  *undo.Undo
	now   []byte         // the image of the Heap
	last  int            // the number that was given last
	marks []int          // rising
	then  map[int][]byte // by mark, the image of the Heap then
}

func benchOf(t *testing.T, b []byte) *bench {
	t.Helper()
	h, err := heap.Load(b)
	if err != nil {
		t.Fatalf("Load of a Heap: %v", err)
	}
	return benchWith(t, h)
}

func benchWith(t *testing.T, h *heap.Heap) *bench {
	t.Helper()
	s := &bench{t: t, heap: h, undo: undo.New(h), now: h.Bytes(), then: map[int][]byte{}}
	s.want("New")
	return s
}

// want asks for all that an Undo tells; it writes over what was given, and asks again.
func (s *bench) want(what string) {
	s.t.Helper()
	if s.undo.Heap() != s.heap {
		s.t.Fatalf("behind %s: Heap is not the one that New was given", what)
	}
	for range 2 {
		s.wantImage(what)
		s.wantMarks(what)
		for _, m := range s.marks {
			s.wantChanges(m, differing(s.then[m], s.now))
		}
	}
}

func (s *bench) wantImage(what string) {
	s.t.Helper()
	if got := s.heap.Bytes(); !bytes.Equal(got, s.now) {
		s.t.Fatalf("behind %s: the Heap has another image: %v", what, differing(s.now, got))
	}
}

func (s *bench) wantMarks(what string) {
	s.t.Helper()
	got := s.undo.Marks()
	if !slices.Equal(got, s.marks) {
		s.t.Fatalf("behind %s: Marks: got %v; want %v", what, got, s.marks)
	}
	for i := range got[:cap(got)] {
		got[:cap(got)][i] = 99
	}
}

func (s *bench) wantChanges(mark int, want []api.Change) {
	s.t.Helper()
	got, err := s.undo.Changes(mark)
	if err != nil || !sameChanges(got, want) {
		s.t.Fatalf("Changes(%d): got %v, %v; want %v", mark, got, err, want)
	}
	spoil(got)
}

// mark asks for the number behind the last one, and that nothing else is changed.
func (s *bench) mark() {
	s.t.Helper()
	got := s.undo.Mark()
	s.last++
	if got != s.last {
		s.t.Fatalf("Mark: got %d; want %d", got, s.last)
	}
	s.marks = append(s.marks, got)
	s.then[got] = slices.Clone(s.now)
	s.want("Mark")
}

// back asks that all is as it was at a mark, and that those behind it are none.
func (s *bench) back(mark int) {
	s.t.Helper()
	if err := s.undo.Back(mark); err != nil {
		s.t.Fatalf("Back(%d): %v", mark, err)
	}
	s.now = slices.Clone(s.then[mark])
	gone := s.marks[slices.Index(s.marks, mark)+1:]
	s.marks = s.marks[:len(s.marks)-len(gone)]
	s.want("Back")
	for _, m := range gone {
		s.noMark(m)
	}
}

// noMark asks that a number is no mark, twice, as nothing is changed by it.
func (s *bench) noMark(mark int) {
	s.t.Helper()
	for range 2 {
		if got, err := s.undo.Changes(mark); len(got) != 0 || plain.Told(err) != api.ErrNone {
			s.t.Errorf("Changes(%d): got %v, %v; want none, ErrNone", mark, got, err)
		}
		s.want("Changes with an error")
		if err := s.undo.Back(mark); plain.Told(err) != api.ErrNone {
			s.t.Errorf("Back(%d): got %v; want ErrNone", mark, err)
		}
		s.want("Back with an error")
	}
}

// noOthers asks that no number but the marks is one.
func (s *bench) noOthers() {
	s.t.Helper()
	for _, m := range neverMarks {
		s.noMark(m)
	}
	for m := 1; m <= s.last+2; m++ {
		if !slices.Contains(s.marks, m) {
			s.noMark(m)
		}
	}
}

// alloc asks for an object, and that it has just this handle and stands just there, all 0.
func (s *bench) alloc(n, tag, handle, at int) {
	s.t.Helper()
	got, err := s.undo.Heap().Alloc(n, tag)
	if got != handle || err != nil {
		s.t.Fatalf("Alloc(%d, %d): got %d, %v; want %d", n, tag, got, err, handle)
	}
	s.now = object(replaced(s.now, at, make([]byte, n)...), handle, tag+1, at, n)
	s.want("Alloc")
}

func (s *bench) free(handle int) {
	s.t.Helper()
	if err := s.heap.Free(handle); err != nil {
		s.t.Fatalf("Free(%d): %v", handle, err)
	}
	s.now = object(s.now, handle, 0, 0, 0)
	s.want("Free")
}

// write asks that bytes are written into an object which stands from place on.
func (s *bench) write(handle, place, at int, b []byte) {
	s.t.Helper()
	if err := s.heap.Write(handle, at, b); err != nil {
		s.t.Fatalf("Write(%d, %d) of %d bytes: %v", handle, at, len(b), err)
	}
	s.now = replaced(s.now, place+at, b...)
	s.want("Write")
}

// become gives the Heap another image: what no call on objects does.
func (s *bench) become(b []byte) {
	s.t.Helper()
	if err := s.heap.Replace(b); err != nil {
		s.t.Fatalf("Replace: %v", err)
	}
	s.now = slices.Clone(b)
	s.want("Replace")
}

// whole asks the Heap about each handle, as one that was just loaded of its image is asked.
func (s *bench) whole() {
	s.t.Helper()
	twin, err := heap.Load(s.now)
	if err != nil {
		s.t.Fatalf("the image of the Heap is not right: %v", err)
	}
	for handle := 0; handle <= 41; handle++ {
		tag, err := s.heap.Tag(handle)
		wantTag, wantErr := twin.Tag(handle)
		if tag != wantTag || plain.Told(err) != plain.Told(wantErr) {
			s.t.Fatalf("Tag(%d): got %d, %v; want %d, %v", handle, tag, err, wantTag, wantErr)
		}
		size, err := s.heap.Size(handle)
		wantSize, wantErr := twin.Size(handle)
		if size != wantSize || plain.Told(err) != plain.Told(wantErr) {
			s.t.Fatalf("Size(%d): got %d, %v; want %d, %v", handle, size, err, wantSize, wantErr)
		}
		got, err := s.heap.Read(handle, 0, size)
		want, wantErr := twin.Read(handle, 0, size)
		if !bytes.Equal(got, want) || plain.Told(err) != plain.Told(wantErr) {
			s.t.Fatalf("Read(%d): got %v, %v; want %v, %v", handle, got, err, want, wantErr)
		}
	}
}
