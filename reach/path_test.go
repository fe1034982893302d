package reach_test

import (
	"slices"
	"testing"

	"vaultkeel/api"
)

func TestPathOfOneToWhichARootLeads(t *testing.T) {
	s := benchOf(t, laid(400, []int{7}, leaf(7)))
	s.path(7)
	s = benchOf(t, laid(400, []int{0, 40, 1}, leaf(1), leaf(40)))
	s.path(1)
	s.path(40)
}

// Where a root leads to it, it is alone, whatever else leads there.
func TestPathOfOneToWhichMoreThanARootLeads(t *testing.T) {
	s := benchOf(t, laid(400, []int{1, 9}, names(1, 2, 9), names(2, 9), names(9, 9)))
	s.path(9)
	s.path(1)
	s.path(1, 2)
	s.unset("gg")
	s.path(1, 9)
	s.write(1, 1, 0)
	s.path(1, 2, 9)
	s = benchOf(t, laid(400, []int{9, 9, 1}, names(1, 9), leaf(9)))
	s.path(9)
}

func TestPathIsTheShortest(t *testing.T) {
	s := benchOf(t, laid(400, []int{1, 30}, names(1, 2), names(2, 3), names(3, 4), leaf(4), names(30, 29), names(29, 4)))
	s.path(30, 29, 4) // lesser handles lead a longer way
	s.path(1, 2, 3)
	s.unset("gg")
	s.path(1, 2, 3, 4)
	s = benchOf(t, laid(400, []int{5}, names(5, 6, 7), names(6, 8), names(7, 9), names(8, 9), leaf(9)))
	s.path(5, 7, 9)
}

// Of two ways as short the first one is of the least handle, wherever its root stands.
func TestPathByTheLeastFirst(t *testing.T) {
	things := []thing{names(3, 9), names(5, 9), names(7, 9), leaf(9)}
	for _, leads := range [][]int{{3, 5, 7}, {7, 5, 3}, {5, 3, 7}, {0, 7, 0, 5, 0, 0, 0, 3}} {
		s := benchOf(t, laid(400, leads, things...))
		s.path(3, 9)
		s.path(5)
	}
	s := benchOf(t, laid(400, []int{7, 5}, things...))
	s.path(5, 9)
}

// Then the second is the least one, however they stand in the object that names them.
func TestPathByTheLeastSecond(t *testing.T) {
	for _, order := range [][]byte{{2, 4, 6}, {6, 4, 2}, {4, 6, 2, 4}, {6, 2, 6, 4, 1}} {
		s := benchOf(t, laid(400, []int{8}, names(8, order...), names(2, 9), names(4, 9), names(6, 9), leaf(9)))
		s.path(8, 2, 9)
		s.path(8, 6)
	}
	s := benchOf(t, laid(400, []int{8}, names(8, 6, 4, 2), leaf(2), names(4, 9), names(6, 9), leaf(9)))
	s.path(8, 4, 9)
}

// A lesser first one is taken, though it leads on over a greater second one; and so on at each place.
func TestPathHoldsTheFirstAheadOfTheSecond(t *testing.T) {
	s := benchOf(t, laid(400, []int{5, 4}, names(4, 30), names(5, 6), names(6, 9), names(30, 9), leaf(9)))
	s.path(4, 30, 9)
	s = benchOf(t, laid(600, []int{1}, names(1, 3, 2), names(2, 40, 39), names(3, 4), names(4, 10), names(39, 20), names(40, 10), names(10, 11), names(20, 11), leaf(11)))
	s.path(1, 2, 40, 10)
	s.path(1, 2, 39, 20, 11)
	s.path(1, 3, 4)
}

// The least way goes over those that are led to by the least way, not over the least handle that names it.
func TestPathIsNotTakenFromItsEnd(t *testing.T) {
	s := benchOf(t, laid(400, []int{10, 20}, names(10, 5), names(20, 3), names(3, 9), names(5, 9), leaf(9)))
	s.path(10, 5, 9)
	s.path(20, 3)
	s = benchOf(t, laid(600, []int{1}, names(1, 10, 20), names(10, 7, 6), names(20, 3, 2), names(6, 30), names(7, 31), names(2, 30), names(3, 31), names(30, 9), names(31, 9), leaf(9)))
	s.path(1, 10, 6, 30, 9)
	s.path(1, 10, 7, 31)
	s.path(1, 20, 2)
}

func TestPathWithRingsOnTheWay(t *testing.T) {
	s := benchOf(t, laid(400, []int{5}, names(5, 5, 6), names(6, 5, 7, 6), names(7, 6, 8, 5), names(8, 8, 7)))
	s.path(5)
	s.path(5, 6)
	s.path(5, 6, 7)
	s.path(5, 6, 7, 8)
	s = benchOf(t, laid(400, []int{2, 4}, names(1, 2), names(2, 3), names(3, 4), names(4, 1)))
	s.path(4, 1)
	s.path(2)
	s.path(2, 3)
	s.path(4)
}

func TestPathOfTheRingOfAll(t *testing.T) {
	s := benchOf(t, laid(6400, []int{0, 30}, everyone(func(handle int) byte { return byte(handle%40 + 1) })...))
	way := []int{30}
	for len(way) < 40 {
		s.path(way...)
		way = append(way, way[len(way)-1]%40+1)
	}
	s.path(way...)
}

func TestPathOfTheLongestWay(t *testing.T) {
	s := benchOf(t, laid(6400, []int{1}, everyone(func(handle int) byte { return byte(handle + 1) })...))
	s.path(upTo(40)...)
	s.path(upTo(39)...)
	s = benchOf(t, laid(6400, []int{40}, everyone(func(handle int) byte { return byte(handle - 1) })...))
	way := upTo(40)
	slices.Reverse(way)
	s.path(way...)
	s.path(40, 39)
}

func TestPathOfADeadOne(t *testing.T) {
	s := benchOf(t, laid(400, []int{1}, thing{1, 1, []byte{2, 3}}, leaf(2), leaf(3), names(4, 1, 3), names(5, 5)))
	for _, handle := range []int{3, 4, 5} {
		s.noPath(handle, api.ErrNone)
	}
	s.path(1, 2)
	s.unset("h")
	for handle := 1; handle <= 5; handle++ {
		s.noPath(handle, api.ErrNone)
	}
}

func TestPathBehindASweep(t *testing.T) {
	s := benchOf(t, laid(400, []int{9}, names(9, 3, 4), names(3, 8), names(4, 8), leaf(8), names(1, 8)))
	s.path(9, 3, 8)
	s.sweep(1)
	s.path(9, 3, 8)
	s.noPath(1, api.ErrNone)
}
