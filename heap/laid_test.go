package heap_test

import (
	"bytes"
	"math"
	"slices"
	"testing"

	"vaultkeel/api"
	"vaultkeel/heap"
	"vaultkeel/plain"
)

// noHandles are numbers that are no handle.
var noHandles = []int{0, -1, 41, 42, 255, 256, 257, -40, 1<<8 + 2, 1<<16 + 2, 1<<32 + 2, math.MaxInt, math.MinInt, math.MinInt + 2}

// object gives a copy of b in which the five bytes of a handle are these.
func object(b []byte, handle, first, at, length int) []byte {
	return replaced(b, 5*(handle-1), byte(first), byte(at%256), byte(at/256), byte(length%256), byte(length/256))
}

// root gives a copy of b in which a root is at a place.
func root(b []byte, i int, name string, handle int) []byte {
	row := make([]byte, 11)
	copy(row, name)
	row[10] = byte(handle)
	return replaced(b, 200+11*i, row...)
}

// replaced gives a copy of b with other bytes from at on.
func replaced(b []byte, at int, row ...byte) []byte {
	return slices.Concat(b[:at], row, b[at+len(row):])
}

// laid gives an image of n bytes with nothing in it, but for bytes that nobody has, none of them 0.
func laid(n int) []byte {
	b := make([]byte, n)
	for i := 288; i < n; i++ {
		b[i] = byte(1 + i*37%255)
	}
	return b
}

// some gives an image of 400 bytes with three objects, a free byte ahead of each, and roots that lead to two of them.
func some() []byte {
	b := object(laid(400), 2, 1, 330, 20)
	b = object(b, 7, 16, 289, 40)
	b = object(b, 40, 5, 351, 49)
	b = root(b, 1, "main", 40)
	return root(b, 6, "b", 2)
}

// full gives an image of 6400 bytes that is as full as may be: forty objects that have all bytes, the last handle first, and eight roots.
func full() []byte {
	b := laid(6400)
	at := 288
	for handle := 40; handle >= 1; handle-- {
		length := 3 // 6 of 1000 bytes, 33 of 3, and one of 13: 6112
		if handle <= 6 {
			length = 1000
		}
		if handle == 20 {
			length = 13
		}
		b = object(b, handle, 1+handle%16, at, length)
		at += length
	}
	for i, name := range []string{"h", "gg", "fff", "eeee", "ddddd", "cccccc", "bbbbbbb", "eightlet"} {
		b = root(b, i, name, 40-5*i)
	}
	return b
}

// around gives b as a part of a greater list, so that what is read or written about it is told.
func around(b []byte) (part, whole []byte) {
	odd := bytes.Repeat([]byte{201}, 600)
	whole = slices.Concat(odd, b, odd)
	return whole[len(odd) : len(odd)+len(b)], whole
}

func fill(b []byte, c byte) {
	for i := range b {
		b[i] = c
	}
}

// counted gives n bytes that rise from c on, none of them 0.
func counted(c, n int) []byte {
	b := make([]byte, n)
	for i := range b {
		b[i] = byte(1 + (c+i)%255)
	}
	return b
}

// load gives a Heap of bytes; behind the call the bytes that were handed in are written over.
func load(t *testing.T, b []byte) *heap.Heap {
	t.Helper()
	part, whole := around(b)
	before := slices.Clone(whole)
	h, err := heap.Load(part)
	if err != nil || h == nil {
		t.Fatalf("Load of %d bytes: %v", len(b), err)
	}
	if !bytes.Equal(whole, before) {
		t.Error("Load wrote into what it was given")
	}
	fill(whole, 98)
	return h
}

// wantNoLoad asks Load for an error, and nothing beside it.
func wantNoLoad(t *testing.T, b []byte, want api.Errno) {
	t.Helper()
	part, whole := around(b)
	before := slices.Clone(whole)
	h, err := heap.Load(part)
	if h != nil || plain.Told(err) != want {
		t.Errorf("Load of %d bytes: got %v, %v; want none, %v", len(b), h != nil, err, want)
	}
	if !bytes.Equal(whole, before) {
		t.Error("Load wrote into what it was given")
	}
}

// bench is a Heap and the image that it must have.
type bench struct {
	t    *testing.T
	heap *heap.Heap
	now  []byte
}

func benchOf(t *testing.T, b []byte) *bench {
	t.Helper()
	s := &bench{t: t, heap: load(t, b), now: slices.Clone(b)}
	s.want("Load")
	return s
}

// newBench gives one of which nobody has anything.
func newBench(t *testing.T, n int) *bench {
	t.Helper()
	h, err := heap.New(n)
	if err != nil || h == nil {
		t.Fatalf("New(%d): %v", n, err)
	}
	s := &bench{t: t, heap: h, now: make([]byte, n)}
	s.want("New")
	return s
}

// want asks for the image, byte for byte, and writes over what was given, so that the next call tells if it was the Heap's own.
func (s *bench) want(what string) {
	s.t.Helper()
	got := s.heap.Bytes()
	if !bytes.Equal(got, s.now) {
		s.t.Fatalf("behind %s: the image of %d bytes is another one, from byte %d on; want %d bytes", what, len(got), firstOther(got, s.now), len(s.now))
	}
	fill(got[:cap(got)], 99)
	if again := s.heap.Bytes(); !bytes.Equal(again, s.now) {
		s.t.Fatalf("behind %s: what Bytes gave is the Heap's own", what)
	}
}

func firstOther(a, b []byte) int {
	for i := range min(len(a), len(b)) {
		if a[i] != b[i] {
			return i
		}
	}
	return min(len(a), len(b))
}

// alloc asks for an object, and that it has just this handle and stands just there, all 0.
func (s *bench) alloc(n, tag, handle, at int) {
	s.t.Helper()
	got, err := s.heap.Alloc(n, tag)
	if got != handle || err != nil {
		s.t.Fatalf("Alloc(%d, %d): got %d, %v; want %d", n, tag, got, err, handle)
	}
	s.now = object(replaced(s.now, at, make([]byte, n)...), handle, tag+1, at, n)
	s.want("Alloc")
	s.read(handle, 0, make([]byte, n))
	s.tag(handle, tag)
	s.size(handle, n)
}

// noAlloc asks Alloc for an error, twice, as nothing is changed by it.
func (s *bench) noAlloc(n, tag int, want api.Errno) {
	s.t.Helper()
	for range 2 {
		if got, err := s.heap.Alloc(n, tag); got != 0 || plain.Told(err) != want {
			s.t.Errorf("Alloc(%d, %d): got %d, %v; want 0, %v", n, tag, got, err, want)
		}
		s.want("Alloc with an error")
	}
}

// free asks that an object is none, and that its bytes stay.
func (s *bench) free(handle int) {
	s.t.Helper()
	if err := s.heap.Free(handle); err != nil {
		s.t.Fatalf("Free(%d): %v", handle, err)
	}
	s.now = object(s.now, handle, 0, 0, 0)
	s.want("Free")
	s.nothing(handle, api.ErrNone)
}

func (s *bench) noFree(handle int, want api.Errno) {
	s.t.Helper()
	for range 2 {
		if err := s.heap.Free(handle); plain.Told(err) != want {
			s.t.Errorf("Free(%d): got %v; want %v", handle, err, want)
		}
		s.want("Free with an error")
	}
}

// read asks for bytes of an object, and that they are fresh.
func (s *bench) read(handle, at int, want []byte) {
	s.t.Helper()
	got, err := s.heap.Read(handle, at, len(want))
	if err != nil || !bytes.Equal(got, want) {
		s.t.Errorf("Read(%d, %d, %d): got %v, %v; want %v", handle, at, len(want), got, err, want)
	}
	again, _ := s.heap.Read(handle, at, len(want))
	fill(got[:cap(got)], 99)
	if !bytes.Equal(again, want) {
		s.t.Errorf("Read(%d, %d, %d) gives what is not fresh", handle, at, len(want))
	}
	s.want("Read")
}

func (s *bench) noRead(handle, at, n int, want api.Errno) {
	s.t.Helper()
	if got, err := s.heap.Read(handle, at, n); len(got) != 0 || plain.Told(err) != want {
		s.t.Errorf("Read(%d, %d, %d): got %v, %v; want none, %v", handle, at, n, got, err, want)
	}
	s.want("Read with an error")
}

// write asks that bytes are written into an object which stands from place on, and that they are not kept.
func (s *bench) write(handle, place, at int, b []byte) {
	s.t.Helper()
	if err := s.tryWrite(handle, at, b); err != nil {
		s.t.Fatalf("Write(%d, %d) of %d bytes: %v", handle, at, len(b), err)
	}
	s.now = replaced(s.now, place+at, b...)
	s.want("Write")
	s.read(handle, at, b)
}

func (s *bench) noWrite(handle, at int, b []byte, want api.Errno) {
	s.t.Helper()
	if err := s.tryWrite(handle, at, b); plain.Told(err) != want {
		s.t.Errorf("Write(%d, %d) of %d bytes: got %v; want %v", handle, at, len(b), err, want)
	}
	s.want("Write with an error")
}

// tryWrite writes; behind the call the bytes that were handed in are written over.
func (s *bench) tryWrite(handle, at int, b []byte) error {
	s.t.Helper()
	part, whole := around(b)
	before := slices.Clone(whole)
	err := s.heap.Write(handle, at, part)
	if !bytes.Equal(whole, before) {
		s.t.Error("Write wrote into what it was given")
	}
	fill(whole, 98)
	return err
}

func (s *bench) tag(handle, want int) {
	s.t.Helper()
	if got, err := s.heap.Tag(handle); got != want || err != nil {
		s.t.Errorf("Tag(%d): got %d, %v; want %d", handle, got, err, want)
	}
}

func (s *bench) size(handle, want int) {
	s.t.Helper()
	if got, err := s.heap.Size(handle); got != want || err != nil {
		s.t.Errorf("Size(%d): got %d, %v; want %d", handle, got, err, want)
	}
}

// nothing asks that each call says of a handle that there is no object, whatever else is wrong.
func (s *bench) nothing(handle int, want api.Errno) {
	s.t.Helper()
	s.noFree(handle, want)
	for _, n := range []int{0, 1, -1, math.MaxInt, math.MinInt} {
		for _, at := range []int{0, 1, -1, math.MaxInt, math.MinInt} {
			if got, err := s.heap.Read(handle, at, n); len(got) != 0 || plain.Told(err) != want {
				s.t.Errorf("Read(%d, %d, %d): got %v, %v; want none, %v", handle, at, n, got, err, want)
			}
		}
		for _, b := range [][]byte{nil, {7}, counted(7, 1001)} {
			if err := s.heap.Write(handle, n, b); plain.Told(err) != want {
				s.t.Errorf("Write(%d, %d) of %d bytes: got %v; want %v", handle, n, len(b), err, want)
			}
		}
	}
	if got, err := s.heap.Tag(handle); got != 0 || plain.Told(err) != want {
		s.t.Errorf("Tag(%d): got %d, %v; want 0, %v", handle, got, err, want)
	}
	if got, err := s.heap.Size(handle); got != 0 || plain.Told(err) != want {
		s.t.Errorf("Size(%d): got %d, %v; want 0, %v", handle, got, err, want)
	}
	s.want("calls of a handle that has no object")
}
