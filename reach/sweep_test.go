package reach_test

import (
	"bytes"
	"testing"

	"vaultkeel/api"
	"vaultkeel/plain"
	"vaultkeel/reach"
	"vaultkeel/root"
)

func TestSweepOfNothing(t *testing.T) {
	for _, b := range [][]byte{
		make([]byte, 288),
		laid(6400, nil),
		laid(400, []int{0, 7}, names(7, 3), names(3, 7, 9), leaf(9)),
		laid(6400, []int{17}, everyone(func(handle int) byte { return byte(handle%40 + 1) })...),
	} {
		s := benchOf(t, b)
		s.sweep()
	}
}

func TestSweepOfAll(t *testing.T) {
	s := benchOf(t, laid(400, nil, leaf(1), names(3, 1), leaf(40)))
	s.sweep(1, 3, 40)
	s = benchOf(t, laid(6400, nil, everyone(func(handle int) byte { return byte(handle%40 + 1) })...))
	s.sweep(upTo(40)...)
	s.alloc(1000, 15, 1)
	s.dead(1)
}

// The image is told here byte for byte: the five bytes of each that is freed are 0, what it had stays.
func TestSweepByteForByte(t *testing.T) {
	b := make([]byte, 400)
	copy(b, []byte{2, 32, 1, 3, 0, 3, 35, 1, 2, 0, 1, 40, 1, 4, 0})
	copy(b[200:], []byte{'m', 'a', 'i', 'n', 0, 0, 0, 0, 0, 0, 2})
	copy(b[288:], []byte{2, 250, 251, 0, 3, 9, 9, 9, 5, 6, 7, 8})
	s := benchOf(t, b)
	s.live(2, 3)
	if n, err := reach.Sweep(s.heap); n != 1 || err != nil {
		t.Errorf("Sweep: got %d, %v; want 1", n, err)
	}
	copy(b, []byte{0, 0, 0, 0, 0})
	if got := s.heap.Bytes(); !bytes.Equal(got, b) {
		t.Errorf("Sweep: the image is another one: %v", got)
	}
}

func TestSweepLeavesTheLiveAndTheRoots(t *testing.T) {
	s := benchOf(t, laid(600, []int{0, 9, 0, 2, 0, 0, 9}, names(9, 4, 20), names(4, 30), leaf(30), leaf(2), names(20, 9), names(1, 9), leaf(3), names(31, 32), names(32, 31)))
	read := func(handle, n int) []byte {
		got, err := s.heap.Read(handle, 0, n)
		if err != nil {
			t.Errorf("Read(%d): %v", handle, err)
		}
		return got
	}
	s.sweep(1, 3, 31, 32)
	if !bytes.Equal(read(9, 2), []byte{4, 20}) || !bytes.Equal(read(30, 5), []byte{1, 2, 3, 4, 5}) {
		t.Errorf("live ones have other bytes: %v, %v", read(9, 2), read(30, 5))
	}
	for _, want := range []api.Root{{Name: "gg", Handle: 9}, {Name: "eeee", Handle: 2}, {Name: "bbbbbbb", Handle: 9}} {
		if got, err := root.Get(s.heap, want.Name, -1); got != want.Handle || err != nil {
			t.Errorf("Get(%q): got %d, %v; want %d", want.Name, got, err, want.Handle)
		}
	}
	for _, handle := range []int{1, 3, 31, 32} {
		if _, err := s.heap.Size(handle); plain.Told(err) != api.ErrNone {
			t.Errorf("Size(%d): got %v; want ErrNone", handle, err)
		}
	}
	s.path(9, 4, 30)
	s.sweep()
}

func TestSweepOfDeadOnesThatNameEachOther(t *testing.T) {
	s := benchOf(t, laid(400, []int{5}, leaf(5), names(1, 2), names(2, 1), names(7, 7), names(8, 1, 5, 9), names(9, 8)))
	s.sweep(1, 2, 7, 8, 9)
	s.live(5)
}

// One that is named by a dead one alone goes with it, in one Sweep, whichever has the lesser handle.
func TestSweepOfAWholeWay(t *testing.T) {
	s := benchOf(t, laid(6400, []int{20}, everyone(func(handle int) byte { return byte(handle + 1) })...))
	s.sweep(upTo(19)...)
	s.set("h", 30)
	s.sweep(20, 21, 22, 23, 24, 25, 26, 27, 28, 29)
	s.unset("h")
	s.sweep(30, 31, 32, 33, 34, 35, 36, 37, 38, 39, 40)
}

func TestSweepMakesRoom(t *testing.T) {
	s := benchOf(t, laid(400, []int{2}, names(2, 40), thing{1, 15, make([]byte, 104)}, leaf(40)))
	if _, err := s.heap.Alloc(9, 0); plain.Told(err) != api.ErrFull {
		t.Fatalf("Alloc: got %v; want ErrFull", err)
	}
	s.sweep(1)
	s.alloc(9, 0, 1)
	s.live(2, 40)
	s.dead(1)
	s.sweep(1)
}

// What is freed is as what Free frees: a handle that is there anew is another object, and its bytes are 0.
func TestSweepLetsHandlesBeGivenAnew(t *testing.T) {
	s := benchOf(t, laid(400, []int{3}, names(1, 3), names(2, 1), thing{3, 2, []byte{0, 0, 2}}))
	s.sweep(1, 2)
	s.write(3, 0, 2) // it is none yet
	s.live(3)
	s.alloc(2, 2, 1)
	s.live(3)
	s.alloc(2, 2, 2)
	s.live(2, 3)
	s.refs(2)
	s.sweep(1)
}
