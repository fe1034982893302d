package heap_test

import (
	"testing"

	"vaultkeel/api"
)

func TestFreeOfNoHandle(t *testing.T) {
	for _, b := range [][]byte{laid(288), some(), full()} {
		s := benchOf(t, b)
		for _, handle := range noHandles {
			s.noFree(handle, api.ErrRange)
		}
	}
}

func TestFreeOfNone(t *testing.T) {
	s := newBench(t, 400)
	for _, handle := range []int{1, 2, 39, 40} {
		s.noFree(handle, api.ErrNone)
	}
	s.alloc(5, 0, 1, 288)
	s.noFree(2, api.ErrNone)
	s.free(1)
	s.noFree(1, api.ErrNone)
	s.alloc(5, 0, 1, 288)
	s.free(1) // it is one anew
	s.noFree(1, api.ErrNone)
}

func TestFreeOfTheFirstAndTheLast(t *testing.T) {
	b := object(object(laid(400), 1, 1, 300, 5), 40, 16, 305, 5)
	s := benchOf(t, b)
	s.free(40)
	s.read(1, 0, b[300:305])
	s.free(1)
	s.nothing(40, api.ErrNone)
}

func TestFreeOfOneToWhichARootLeads(t *testing.T) {
	s := benchOf(t, some())
	b := some()
	s.noFree(2, api.ErrClash)
	s.noFree(40, api.ErrClash)
	s.read(2, 0, b[330:350])
	s.tag(40, 4)
	s.size(40, 49)
	s.write(40, 351, 48, []byte{9}) // it is still one
	s.free(7)                       // no root leads to this one
	s.noFree(7, api.ErrNone)
}

func TestFreeWithARootAtEachPlace(t *testing.T) {
	for i := range 8 {
		for _, handle := range []int{1, 5, 40} {
			b := object(object(laid(400), handle, 4, 300, 9), 20, 4, 350, 9)
			s := benchOf(t, root(b, i, "name", handle))
			s.noFree(handle, api.ErrClash)
			s.free(20)
		}
	}
}

func TestFreeWithManyRoots(t *testing.T) {
	s := benchOf(t, full()) // roots lead to 40, 35, .. and 5
	for handle := 1; handle <= 40; handle++ {
		if handle%5 == 0 {
			s.noFree(handle, api.ErrClash)
		} else {
			s.free(handle)
		}
	}
	two := benchOf(t, root(root(some(), 0, "one", 7), 7, "two", 7))
	two.noFree(7, api.ErrClash)
}

// What an object names in its bytes is no root.
func TestFreeOfOneThatAnotherNames(t *testing.T) {
	s := newBench(t, 400)
	s.alloc(3, 3, 1, 288)
	s.alloc(3, 3, 2, 291)
	s.write(1, 288, 0, []byte{2, 2, 2})
	s.write(2, 291, 0, []byte{2, 1, 2})
	s.free(2)
	s.read(1, 0, []byte{2, 2, 2})
	s.free(1)
}

func TestFreeLeavesAllBytes(t *testing.T) {
	s := newBench(t, 400)
	s.alloc(10, 1, 1, 288)
	s.alloc(10, 2, 2, 298)
	s.alloc(10, 3, 3, 308)
	for handle := 1; handle <= 3; handle++ {
		s.write(handle, 278+10*handle, 0, counted(40*handle, 10))
	}
	s.free(2)
	if got := s.heap.Bytes()[298:308]; got[0] != counted(80, 1)[0] || got[9] != counted(89, 1)[0] {
		t.Errorf("the bytes of what was freed are others: %v", got)
	}
	s.read(1, 0, counted(40, 10))
	s.read(3, 0, counted(120, 10))
	s.tag(1, 1)
	s.tag(3, 3)
	s.size(1, 10)
	s.size(3, 10)
}
