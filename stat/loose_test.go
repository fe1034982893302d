package stat_test

import "testing"

func TestLooseWhereNothingIsFree(t *testing.T) {
	benchOf(t, laid(288)).loose(0)
	benchOf(t, make([]byte, 288)).loose(0)
	benchOf(t, full()).loose(0)
	benchOf(t, laid(289, thing{1, 0, 288, 1})).loose(0)
}

func TestLooseOfOneRun(t *testing.T) {
	for _, n := range []int{289, 290, 400, 6400} {
		benchOf(t, laid(n)).loose(0)
	}
	benchOf(t, laid(400, thing{5, 0, 288, 30})).loose(0)
	benchOf(t, laid(400, thing{5, 0, 370, 30})).loose(0)
	benchOf(t, laid(400, thing{5, 0, 288, 30}, thing{4, 0, 390, 10})).loose(0)
	benchOf(t, laid(400, thing{5, 0, 288, 1}, thing{4, 0, 290, 110})).loose(0)
}

func TestLooseOfRunsAsLong(t *testing.T) {
	for _, c := range []struct{ runs, size, want int }{
		{2, 1, 50}, {2, 10, 50}, {2, 3000, 50},
		{3, 7, 66}, {4, 7, 75}, {5, 1, 80}, {6, 4, 83}, {7, 3, 85}, {8, 5, 87}, {10, 9, 90},
	} {
		benchOf(t, apart(4, times(c.runs, c.size)...)).loose(c.want)
	}
}

// Hundredths are rounded down, however near the next one is.
func TestLooseIsRoundedDown(t *testing.T) {
	for _, c := range []struct {
		runs []int
		want int
	}{
		{[]int{1, 2}, 33},       // of 3 bytes 1
		{[]int{2, 1}, 33},       // wherever the longest run is
		{[]int{4, 3}, 42},       // of 7 bytes 3: 42.8
		{[]int{1, 6}, 14},       // 14.2
		{[]int{6, 1, 0}, 14},    // no run is between two that stand side by side
		{[]int{1, 1, 6}, 25},    // of 8 bytes 2
		{[]int{6, 2, 1}, 33},    // of 9 bytes 3
		{[]int{5, 2, 2}, 44},    // of 9 bytes 4: 44.4
		{[]int{2, 5, 2}, 44},    // the longest one in the midst
		{[]int{101, 100}, 49},   // 49.7
		{[]int{99, 100}, 49},    // 49.7
		{[]int{1, 100, 5}, 5},   // 5.6
		{[]int{1, 16}, 5},       // 5.8
		{[]int{1999, 2000}, 49}, // 49.98
	} {
		benchOf(t, apart(4, c.runs...)).loose(c.want)
	}
	benchOf(t, some()).loose(66)
}

// Below one hundredth it is 0, and from just one on 1.
func TestLooseNearNothing(t *testing.T) {
	benchOf(t, apart(4, 1, 98)).loose(1)
	benchOf(t, apart(4, 1, 99)).loose(1) // just one hundredth
	benchOf(t, apart(4, 1, 100)).loose(0)
	benchOf(t, apart(4, 2, 198)).loose(1)
	benchOf(t, apart(4, 2, 199)).loose(0)
	benchOf(t, apart(4, 1, 197, 1)).loose(1)
	benchOf(t, apart(4, 1, 198, 1)).loose(1)
	benchOf(t, apart(4, 1, 199, 1)).loose(0)
	benchOf(t, apart(1, 1, 6110)).loose(0)
	benchOf(t, apart(1, 61, 6039)).loose(1)
	benchOf(t, apart(1, 60, 6040)).loose(0)
}

// One of forty-one runs is the longest, so a forty-first at least is in it: no Heap is looser than 97 hundredths.
func TestLooseAtTheMost(t *testing.T) {
	benchOf(t, apart(1, times(41, 1)...)).loose(97) // 97.5
	benchOf(t, apart(1, times(41, 148)...)).loose(97)
	benchOf(t, apart(1, times(40, 5)...)).loose(97)
	benchOf(t, apart(1, times(34, 3)...)).loose(97) // 97.05
	benchOf(t, apart(1, times(33, 3)...)).loose(96) // 96.9
	benchOf(t, apart(1, append(times(40, 1), 2)...)).loose(95)
	benchOf(t, apart(1, append(times(40, 100), 101)...)).loose(97)
}

func TestLooseOfOneLongAndManyShort(t *testing.T) {
	benchOf(t, apart(3, append(times(40, 1), 40)...)).loose(50)
	benchOf(t, apart(3, append(times(40, 1), 60)...)).loose(40)
	benchOf(t, apart(3, append(times(40, 1), 4000)...)).loose(0)
	benchOf(t, apart(3, append([]int{1000}, times(40, 10)...)...)).loose(28) // 28.5
	benchOf(t, apart(3, append([]int{1, 1, 1, 500}, times(30, 2)...)...)).loose(11)
}

// With each call on the Heap it tells what is there then.
func TestLooseFromCallToCall(t *testing.T) {
	s := benchOf(t, make([]byte, 388))
	a, c, _ := s.alloc(10, 1), s.alloc(20, 2), s.alloc(40, 3)
	s.loose(0)
	s.free(a)
	s.loose(25) // 10 and 30
	s.free(c)
	s.loose(50) // 30 and 30
	s.alloc(30, 1)
	s.loose(0)
	s.alloc(30, 1)
	s.loose(0) // nothing is free any more
}
