package reach_test

import (
	"testing"
)

func TestLiveWithoutRoots(t *testing.T) {
	for _, b := range [][]byte{make([]byte, 288), make([]byte, 6400)} {
		s := benchOf(t, b)
		s.live()
		s.dead()
	}
	s := benchOf(t, laid(400, nil, names(1, 2), names(2, 1), names(3, 3), leaf(40)))
	s.live()
	s.dead(1, 2, 3, 40)
}

func TestLiveToWhichRootsLead(t *testing.T) {
	s := benchOf(t, laid(400, []int{0, 40, 0, 3, 7}, leaf(1), leaf(3), leaf(7), leaf(40), leaf(12)))
	s.live(3, 7, 40) // rising, not by place
	s.dead(1, 12)
}

func TestLiveToWhichARootLeadsFromEachPlace(t *testing.T) {
	for place := range 8 {
		leads := make([]int, 8)
		leads[place] = 9
		s := benchOf(t, laid(400, leads, names(9, 4), leaf(4), names(5, 9)))
		s.live(4, 9)
		s.dead(5)
		s.path(9, 4)
	}
}

func TestLiveToWhichTwoRootsLead(t *testing.T) {
	s := benchOf(t, laid(400, []int{7, 7}, names(7, 2), leaf(2), leaf(3)))
	s.live(2, 7)
	s.dead(3)
	s.unset("h")
	s.live(2, 7)
	s.unset("gg")
	s.live()
	s.dead(2, 3, 7)
	s = benchOf(t, laid(400, []int{7, 7, 7, 7, 7, 7, 7, 7}, names(7, 2), leaf(2), leaf(3)))
	s.live(2, 7)
}

// Bytes behind those that the tag tells name nobody, so they keep nobody.
func TestLiveByTheFirstBytesAlone(t *testing.T) {
	s := benchOf(t, laid(400, []int{1}, thing{1, 1, []byte{2, 3}}, thing{2, 0, []byte{4, 5}}, leaf(3), leaf(4), leaf(5)))
	s.live(1, 2)
	s.dead(3, 4, 5)
	s = benchOf(t, laid(400, []int{1}, thing{1, 15, []byte{0, 41, 255, 2}}, thing{2, 2, []byte{0, 0, 4}}, leaf(4)))
	s.live(1, 2)
	s.dead(4)
}

func TestLiveOverManySteps(t *testing.T) {
	s := benchOf(t, laid(6400, []int{20}, everyone(func(handle int) byte { return byte(handle + 1) })...)) // 40 names 41, which is none
	s.live(20, 21, 22, 23, 24, 25, 26, 27, 28, 29, 30, 31, 32, 33, 34, 35, 36, 37, 38, 39, 40)
	s.dead(upTo(19)...)
	s = benchOf(t, laid(6400, []int{20}, everyone(func(handle int) byte { return byte(handle - 1) })...))
	s.live(upTo(20)...)
	s.set("h", 40)
	s.live(upTo(40)...)
	s.set("h", 1)
	s.live(1)
}

// An object that names many, of which some name many, and more than one of them the same.
func TestLiveOfWhatManyName(t *testing.T) {
	s := benchOf(t, laid(600, []int{5},
		names(5, 9, 2, 14), names(9, 3, 2), names(2, 3, 8), names(14, 9, 30), leaf(3), names(8, 5), names(30, 30), names(31, 5, 9, 32), leaf(32)))
	s.live(2, 3, 5, 8, 9, 14, 30)
	s.dead(31, 32)
}

func TestLiveRings(t *testing.T) {
	ring := []thing{names(3, 6), names(6, 1), names(1, 3), names(10, 11), names(11, 10), leaf(12)}
	s := benchOf(t, laid(400, nil, ring...))
	s.live()
	for _, handle := range []int{3, 6, 1} {
		s = benchOf(t, laid(400, []int{handle}, ring...))
		s.live(1, 3, 6)
		s.dead(10, 11, 12)
	}
	s = benchOf(t, laid(400, []int{12, 11}, ring...))
	s.live(10, 11, 12)
	s = benchOf(t, laid(400, []int{12, 11, 6}, ring...))
	s.live(1, 3, 6, 10, 11, 12)
	s.dead()
}

func TestLiveRingOfAll(t *testing.T) {
	for _, first := range []int{1, 17, 40} {
		s := benchOf(t, laid(6400, []int{first}, everyone(func(handle int) byte { return byte(handle%40 + 1) })...))
		s.live(upTo(40)...)
		s.dead()
		s.unset("h")
		s.live()
		s.dead(upTo(40)...)
	}
}

func TestLiveOfOneThatNamesItself(t *testing.T) {
	s := benchOf(t, laid(400, []int{4}, names(3, 3), names(4, 4), names(5, 5, 4)))
	s.live(4)
	s.dead(3, 5)
	s.set("gg", 3)
	s.live(3, 4)
	s.dead(5)
}

func TestLiveIsNobodyWhomDeadOnesName(t *testing.T) {
	s := benchOf(t, laid(400, []int{1}, leaf(1), names(2, 3, 1), names(3, 4), leaf(4)))
	s.live(1)
	s.dead(2, 3, 4)
	s.set("gg", 3)
	s.live(1, 3, 4)
	s.dead(2)
}

func TestLiveAsManyAsThereMayBe(t *testing.T) {
	s := benchOf(t, laid(6400, []int{33, 25, 17, 9, 1, 34, 35, 36}, everyone(func(handle int) byte { return byte(handle + 8) })...))
	s.live(1, 9, 17, 25, 33, 34, 35, 36)
	for i, name := range rootNames {
		s.set(name, 8-i)
	}
	s.live(upTo(40)...)
	s.dead()
	s.unset("ddddd") // leads to 4
	s.dead(4, 12, 20, 28, 36)
}

// All that one object may name, and 40 that all name 15 others.
func TestLiveOfWhatNamesMost(t *testing.T) {
	var l []thing
	for handle := 1; handle <= 40; handle++ {
		o := thing{handle, 15, make([]byte, 20)}
		for i := range o.body {
			o.body[i] = byte((handle+i)%40 + 1)
		}
		l = append(l, o)
	}
	s := benchOf(t, laid(6400, []int{40}, l...))
	s.live(upTo(40)...)
	s.dead()
	s.path(40, 1)
	s.path(40, 15)
	s.path(40, 1, 16)
	s.path(40, 2, 17)
	s.path(40, 15, 30)
	s.path(40, 1, 16, 31)
	s.path(40, 9, 24, 39)
}
