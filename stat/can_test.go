package stat_test

import (
	"math"
	"slices"
	"testing"

	"vaultkeel/api"
	"vaultkeel/plain"
	"vaultkeel/stat"
)

// noSizes are numbers that no object has as its size.
var noSizes = []int{0, -1, 1001, 1002, -1000, 6112, 6400, 1<<16 + 1, 1<<32 + 1, math.MaxInt, math.MinInt, math.MinInt + 1}

func TestCanOfNoSizes(t *testing.T) {
	for _, b := range [][]byte{laid(288), laid(400), some(), full(), laid(6400)} {
		s := benchOf(t, b)
		s.can(0)
		for _, l := range [][]int{nil, {}} {
			if n, err := stat.Can(s.heap, l); n != 0 || err != nil {
				t.Errorf("Can(%v): got %d, %v; want 0", l, n, err)
			}
		}
	}
}

func TestCanOfSizesThatAllHaveRoom(t *testing.T) {
	s := benchOf(t, laid(400))
	s.can(1, 1)
	s.can(1, 111)
	s.can(2, 56, 48)
	s.can(3, 1, 1, 1)
	s.can(5, 30, 5, 20, 1, 3)
	benchOf(t, laid(6400)).can(6, 1000, 999, 1000, 1, 1000, 1000)
	benchOf(t, some()).can(3, 1, 1, 1)
}

func TestCanOfJustWhatIsFree(t *testing.T) {
	s := benchOf(t, laid(400))
	s.can(1, 112)
	s.can(0, 113)
	s.can(2, 100, 12)
	s.can(1, 100, 13)
	s.can(2, 100, 12, 1)
	s.can(3, 1, 110, 1)
	s = benchOf(t, laid(6400))
	s.can(7, append(times(6, 1000), 112)...)
	s.can(6, append(times(6, 1000), 113)...)
	s.can(6, times(7, 1000)...)
	s.can(7, append(times(6, 1000), 112, 1)...)
	s = benchOf(t, apart(9, 4, 7, 1))
	s.can(3, 4, 7, 1)
	s.can(3, 7, 1, 4)
	s.can(3, 1, 4, 7, 1)
	s.can(6, 1, 3, 2, 1, 1, 4, 1)
	benchOf(t, laid(1288)).can(1, 1000)
	benchOf(t, laid(1287)).can(0, 1000)
	benchOf(t, laid(289)).can(1, 1)
	benchOf(t, laid(289)).can(1, 1, 1)
}

// What is behind the first that has no room does not count, though it would have room.
func TestCanEndsAtTheFirstWithoutRoom(t *testing.T) {
	s := benchOf(t, laid(400))
	s.can(0, 113, 1, 1, 1)
	s.can(1, 100, 13, 12)
	s.can(2, 50, 50, 50, 12)
	s.can(3, 26, 16, 6, 65, 1, 1, 1)
	s = benchOf(t, apart(9, 4, 7, 1))
	s.can(0, 8, 7, 4, 1)
	s.can(1, 7, 7, 4, 1)
	s.can(2, 4, 7, 2, 1)
}

// What is free is not one run: a size may have none that is as long.
func TestCanOfPieces(t *testing.T) {
	s := benchOf(t, apart(20, 10, 10, 10))
	s.can(1, 10)
	s.can(0, 11)
	s.can(0, 30)
	s.can(3, 10, 10, 10)
	s.can(2, 10, 10, 11)
	s.can(3, 6, 6, 6, 6) // 12 bytes are left, four in each
	s.can(6, 6, 6, 6, 4, 4, 4, 1)
	benchOf(t, some()).can(0, 2)
	benchOf(t, some()).can(0, 3)
}

// Each takes the shortest run that has room for it, as an Alloc does.
func TestCanTakesTheShortestRun(t *testing.T) {
	s := benchOf(t, apart(20, 10, 5))
	s.can(2, 5, 10) // were it the first run, or the longest one, 10 would have no room
	s.can(2, 10, 5)
	s.can(2, 4, 10, 5)
	s = benchOf(t, apart(20, 5, 10))
	s.can(2, 5, 10)
	s = benchOf(t, apart(20, 12, 10))
	s.can(2, 2, 10, 10) // were it the first run, both would have room
	s.can(3, 2, 12, 8)
	s = benchOf(t, apart(20, 10, 12))
	s.can(2, 2, 10, 10) // and here the longest one
	s = benchOf(t, apart(20, 30, 8, 3, 20, 8))
	s.can(5, 3, 8, 8, 20, 30)
	s.can(5, 7, 6, 19, 29, 3, 8)
	s.can(4, 4, 4, 4, 4, 31)
	s.can(6, 4, 4, 4, 4, 20, 30)
}

// One behind the other, in their order: they are not sorted.
func TestCanKeepsTheOrder(t *testing.T) {
	s := benchOf(t, apart(20, 10, 10))
	s.can(2, 5, 6, 9)
	s.can(3, 4, 6, 10)
	s.can(3, 5, 10, 5)
	s.can(2, 1, 10, 10)
	s = benchOf(t, laid(400))
	s.can(1, 60, 60, 10)
	s.can(2, 60, 10, 60)
	s.can(2, 10, 60, 60)
}

func TestCanTillTheHandlesEnd(t *testing.T) {
	s := benchOf(t, laid(6400))
	for _, n := range []int{39, 40} {
		s.can(n, times(n, 1)...)
		s.can(n, times(n, 100)...)
	}
	for _, n := range []int{41, 42, 199, 200} {
		s.can(40, times(n, 1)...)
		s.can(40, times(n, 152)...) // 6080 of 6112 bytes
	}
	s.can(39, times(41, 153)...) // 5967 bytes: here the room ends first
	s.can(40, append(times(40, 1), 1000)...)
}

func TestCanWithFewHandlesLeft(t *testing.T) {
	s := benchOf(t, laid(6400))
	for handle := 1; handle <= 37; handle++ {
		s.alloc(2, handle%16)
	}
	s.can(2, 1, 1)
	s.can(3, 1, 1, 1)
	s.can(3, 1, 1, 1, 1)
	s.can(3, 1000, 1000, 1000, 1000)
	s.free(20)
	s.can(4, 1, 1, 1, 1)
	s.can(4, 1, 1, 1, 1, 1)
	for range 4 {
		s.alloc(2, 0)
	}
	s.can(0, 1) // 6032 bytes are free, and no handle is left
	s.can(0, 1000)
	s.can(0)
	s.free(40)
	s.can(1, 1)
	s.can(1, 1, 1)
}

func TestCanWhereNothingIsFree(t *testing.T) {
	for _, b := range [][]byte{laid(288), make([]byte, 288), full(), laid(400, thing{3, 1, 288, 12}, thing{1, 2, 300, 100})} {
		s := benchOf(t, b)
		s.can(0, 1)
		s.can(0, 1000)
		s.can(0, 1, 1, 1)
		s.can(0, times(200, 1)...)
	}
}

func TestCanOfTooManySizes(t *testing.T) {
	for _, b := range [][]byte{laid(288), laid(400), full(), laid(6400)} {
		s := benchOf(t, b)
		s.noCan(api.ErrFull, times(201, 1)...)
		s.noCan(api.ErrFull, times(202, 1000)...)
		s.noCan(api.ErrFull, times(1000, 5)...)
		for _, size := range noSizes { // ErrFull comes first
			s.noCan(api.ErrFull, times(201, size)...)
			s.noCan(api.ErrFull, append(times(200, 1), size)...)
			s.noCan(api.ErrFull, append([]int{size}, times(200, 1)...)...)
		}
	}
	benchOf(t, laid(400)).can(40, times(200, 1)...)
	benchOf(t, laid(400)).can(1, times(200, 60)...)
	benchOf(t, laid(288)).can(0, times(200, 1)...)
}

func TestCanOfWrongSizes(t *testing.T) {
	for _, b := range [][]byte{laid(288), laid(400), some(), full(), laid(6400)} {
		s := benchOf(t, b)
		for _, size := range noSizes {
			s.noCan(api.ErrRange, size)
			s.noCan(api.ErrRange, size, 1)
			s.noCan(api.ErrRange, 1, size)
			s.noCan(api.ErrRange, 1, 2, size, 3)
			s.noCan(api.ErrRange, 900, 900, 900, 900, 900, 900, 900, size) // behind one that has no room
			s.noCan(api.ErrRange, append(times(199, 1), size)...)          // behind the last handle
			s.noCan(api.ErrRange, append([]int{size}, times(199, 1)...)...)
			s.noCan(api.ErrRange, times(200, size)...)
		}
	}
}

func TestCanOfTheGreatestSize(t *testing.T) {
	s := benchOf(t, laid(6400))
	s.can(1, 1000)
	s.noCan(api.ErrRange, 1001)
	s.noCan(api.ErrRange, 1000, 1001)
	benchOf(t, laid(400)).can(0, 1000) // it may be, but has no room
	benchOf(t, laid(400)).can(1, 1, 1000, 1)
}

// The sizes are those of each call alone: what was asked ahead takes no room.
func TestCanTakesNothing(t *testing.T) {
	s := benchOf(t, laid(400))
	for range 50 {
		s.can(1, 112)
		s.can(2, 60, 50, 3)
		s.noCan(api.ErrRange, 60, 0)
	}
	if handle := s.alloc(112, 3); handle != 1 {
		t.Errorf("Alloc behind Can: got %d; want 1", handle)
	}
	s.can(0, 1)
	s.free(1)
	s.can(1, 112)
}

// What Can tells is what a row of Allocs does, of whatever tag.
func TestCanIsWhatAllocDoes(t *testing.T) {
	for _, b := range [][]byte{laid(288), laid(400), some(), full(), apart(20, 30, 8, 3, 20, 8), apart(9, times(38, 5)...)} {
		for _, sizes := range [][]int{times(200, 1), times(200, 5), {7, 6, 19, 29, 3, 8}, {30, 20, 8, 8, 3, 1}, {1, 2, 3, 4, 5, 6, 7, 8, 9, 10}} {
			for _, tag := range []int{0, 7, 15} {
				s := benchOf(t, b)
				n, err := s.asked(slices.Clone(sizes))
				if err != nil {
					t.Fatalf("Can(%v): %v", sizes, err)
				}
				for _, size := range sizes[:n] {
					s.alloc(size, tag)
				}
				if n < len(sizes) {
					if _, err := s.heap.Alloc(sizes[n], tag); plain.Told(err) != api.ErrFull {
						t.Errorf("Can(%v) is %d; the next Alloc: got %v; want %v", sizes, n, err, api.ErrFull)
					}
				}
			}
		}
	}
}
