package heap_test

import (
	"math"
	"testing"

	"vaultkeel/api"
)

func TestAllocOfSizesAndTags(t *testing.T) {
	s := newBench(t, 6400)
	s.alloc(1, 0, 1, 288)
	s.alloc(1000, 15, 2, 289)
	s.alloc(999, 14, 3, 1289)
	s.alloc(2, 1, 4, 2288)
	s.alloc(255, 7, 5, 2290)
	s.alloc(256, 8, 6, 2545)
	s.alloc(257, 9, 7, 2801)
}

func TestAllocOfEachTag(t *testing.T) {
	s := newBench(t, 400)
	for tag := range 16 {
		s.alloc(2, tag, 1+tag, 288+2*tag)
	}
	for tag := range 16 {
		s.tag(1+tag, tag)
	}
}

// noSizes and noTags are none that Alloc takes.
var (
	noSizes = []int{0, -1, 1001, 1002, -1000, 1<<16 + 1, 1<<32 + 1, math.MaxInt, math.MinInt, math.MinInt + 1}
	noTags  = []int{-1, 16, 17, 255, 256, -16, 1 << 32, 1<<32 + 1, math.MaxInt, math.MinInt, math.MinInt + 1}
)

func TestAllocOfNoSizeOrTag(t *testing.T) {
	for _, b := range [][]byte{laid(288), some(), full()} { // those that are full, too: ErrRange comes first
		s := benchOf(t, b)
		for _, n := range noSizes {
			s.noAlloc(n, 0, api.ErrRange)
			s.noAlloc(n, 15, api.ErrRange)
			s.noAlloc(n, -1, api.ErrRange)
		}
		for _, tag := range noTags {
			s.noAlloc(1, tag, api.ErrRange)
			s.noAlloc(1000, tag, api.ErrRange)
			s.noAlloc(1001, tag, api.ErrRange)
		}
	}
}

func TestAllocTakesTheLeastHandle(t *testing.T) {
	s := benchOf(t, some()) // has 2, 7 and 40
	at := 288
	s.alloc(1, 0, 1, at)
	s.free(1)
	s.alloc(1, 1, 1, at)
	s.alloc(1, 2, 3, 329)
	s.alloc(1, 3, 4, 350)
	s.noAlloc(1, 4, api.ErrFull)
	s.free(3)
	s.alloc(1, 5, 3, 329)
	s.free(4)
	s.free(1)
	s.alloc(1, 6, 1, 288) // the least one, not the one that was freed last
	s.alloc(1, 7, 4, 350)
}

func TestAllocOfTheLastHandle(t *testing.T) {
	s := newBench(t, 6400)
	for handle := 1; handle <= 40; handle++ {
		s.alloc(3, handle%16, handle, 285+3*handle)
	}
	s.noAlloc(3, 0, api.ErrFull) // there is room, but no handle
	s.noAlloc(1, 0, api.ErrFull)
	s.noAlloc(1000, 0, api.ErrFull)
	s.free(40)
	s.alloc(3, 0, 40, 405)
	s.noAlloc(1, 0, api.ErrFull)
	s.free(17)
	s.free(31)
	s.alloc(4, 0, 17, 408)
	s.alloc(3, 0, 31, 336)
	s.noAlloc(1, 0, api.ErrFull)
}

func TestAllocIsAllZero(t *testing.T) {
	s := benchOf(t, laid(400)) // what nobody has is not 0 there
	s.alloc(112, 3, 1, 288)
	s.write(1, 288, 0, counted(3, 112))
	s.free(1)
	s.alloc(50, 0, 1, 288)
	s.alloc(40, 0, 2, 338)
	s.write(1, 288, 0, counted(70, 50))
	s.write(2, 338, 0, counted(80, 40))
	s.free(2)
	s.alloc(3, 0, 2, 338) // alloc asks that no other byte is changed, so what was freed stays behind it
	s.alloc(59, 0, 3, 341)
	s.read(1, 0, counted(70, 50))
}

func TestAllocJustFits(t *testing.T) {
	for _, n := range []int{1, 2, 12, 999, 1000} {
		s := newBench(t, 288+n)
		if n < 1000 {
			s.noAlloc(n+1, 0, api.ErrFull)
		}
		s.alloc(n, 0, 1, 288)
		s.noAlloc(1, 0, api.ErrFull)
		s.free(1)
		s.alloc(n, 1, 1, 288)
	}
	s := newBench(t, 288)
	s.noAlloc(1, 0, api.ErrFull)
	s.noAlloc(1000, 15, api.ErrFull)
}

func TestAllocWithoutRoom(t *testing.T) {
	s := newBench(t, 388)
	s.alloc(30, 0, 1, 288)
	s.alloc(40, 0, 2, 318)
	s.alloc(30, 0, 3, 358)
	s.noAlloc(1, 0, api.ErrFull)
	s.free(1)
	s.free(3)
	s.noAlloc(31, 0, api.ErrFull) // 60 bytes are free, in two pieces
	s.noAlloc(60, 0, api.ErrFull)
	s.alloc(30, 0, 1, 288)
	s.noAlloc(31, 0, api.ErrFull)
	s.alloc(30, 0, 3, 358)
	s.noAlloc(1, 0, api.ErrFull)
	s.free(2)
	s.free(3)
	s.noAlloc(71, 0, api.ErrFull)
	s.alloc(70, 0, 2, 318) // two that were freed beside each other are one piece
}

func TestAllocTakesTheShortestRun(t *testing.T) {
	b := laid(400) // free: 288+10, 300+5, 310+5, 320+7, 330+70
	for i, e := range []api.Extent{{At: 298, Len: 2}, {At: 305, Len: 5}, {At: 315, Len: 5}, {At: 327, Len: 3}} {
		b = object(b, 30-i, 1, e.At, e.Len)
	}
	for _, c := range []struct{ n, at int }{{1, 300}, {4, 300}, {5, 300}, {6, 320}, {7, 320}, {8, 288}, {10, 288}, {11, 330}, {70, 330}} {
		s := benchOf(t, b)
		s.alloc(c.n, 0, 1, c.at)
	}
	s := benchOf(t, b)
	s.noAlloc(71, 0, api.ErrFull)
	s.alloc(3, 0, 1, 300) // leaves 2: the shortest one now
	s.alloc(2, 0, 2, 303)
	s.alloc(2, 0, 3, 310)
	s.alloc(4, 0, 4, 320)
	s.alloc(3, 0, 5, 312) // the first of two that have just 3 bytes
	s.alloc(3, 0, 6, 324)
	s.alloc(9, 0, 7, 288)
	s.alloc(1, 0, 8, 297)
	s.alloc(70, 0, 9, 330)
	s.noAlloc(1, 0, api.ErrFull)
}

// What is ahead of Head is nobody's room, however the bytes there stand.
func TestAllocStandsBehindHead(t *testing.T) {
	s := newBench(t, 290)
	s.noAlloc(3, 0, api.ErrFull)
	s.noAlloc(200, 0, api.ErrFull)
	s.alloc(1, 0, 1, 288)
	s.alloc(1, 0, 2, 289)
	s.noAlloc(1, 0, api.ErrFull)
}

func TestAllocLeavesOthersAndRoots(t *testing.T) {
	s := benchOf(t, some())
	b := some()
	s.alloc(1, 9, 1, 288)
	s.noAlloc(2, 9, api.ErrFull)
	s.alloc(1, 9, 3, 329)
	s.read(2, 0, b[330:350])
	s.read(7, 0, b[289:329])
	s.read(40, 0, b[351:400])
	s.tag(7, 15)
	s.noFree(2, api.ErrClash)
	s.noFree(40, api.ErrClash)
}

func TestAllocInAFullOne(t *testing.T) {
	s := benchOf(t, full())
	s.noAlloc(1, 0, api.ErrFull)
	s.free(3)
	s.noAlloc(1000, 16, api.ErrRange)
	s.alloc(1000, 15, 3, 4400-1000)
	s.noAlloc(1, 0, api.ErrFull)
	s.free(39) // three bytes, and no handle below
	s.noAlloc(4, 0, api.ErrFull)
	s.alloc(3, 1, 39, 291)
}
