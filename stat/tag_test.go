package stat_test

import (
	"testing"

	"vaultkeel/stat"
)

func TestByTagWithoutObjects(t *testing.T) {
	for _, n := range []int{288, 289, 400, 6400} {
		benchOf(t, make([]byte, n)).byTag(nil)
		benchOf(t, laid(n)).byTag(nil)
	}
}

func TestByTagHasSixteenNumbers(t *testing.T) {
	for _, b := range [][]byte{laid(288), laid(6400), some(), full(), apart(3, times(10, 4)...)} {
		if got := stat.ByTag(benchOf(t, b).heap); len(got) != 16 {
			t.Errorf("ByTag: got %v; want sixteen numbers", got)
		}
	}
}

func TestByTagOfEachTag(t *testing.T) {
	for tag := range 16 {
		benchOf(t, laid(400, thing{5, tag, 300, 9})).byTag(map[int]int{tag: 9})
		benchOf(t, laid(6400, thing{40, tag, 5400, 1000})).byTag(map[int]int{tag: 1000})
		benchOf(t, laid(400, thing{5, tag, 300, 9}, thing{1, tag, 390, 10}, thing{17, tag, 288, 1})).byTag(map[int]int{tag: 20})
	}
}

func TestByTagOfSeveral(t *testing.T) {
	benchOf(t, some()).byTag(map[int]int{0: 20, 4: 49, 15: 40})
	b := laid(400, thing{1, 0, 288, 1}, thing{2, 15, 289, 2}, thing{3, 0, 295, 4}, thing{4, 15, 300, 8}, thing{5, 7, 310, 16})
	benchOf(t, b).byTag(map[int]int{0: 5, 7: 16, 15: 10})
	want := map[int]int{}
	for handle := 1; handle <= 40; handle++ {
		size := 3
		if handle <= 6 {
			size = 1000
		}
		if handle == 20 {
			size = 13
		}
		want[handle%16] += size
	}
	benchOf(t, full()).byTag(want)
}

// What an object has in it, and who leads to it, is not asked.
func TestByTagCountsBytesAlone(t *testing.T) {
	b := laid(400, thing{5, 3, 300, 9}, thing{6, 3, 320, 4})
	benchOf(t, lead(lead(b, 0, "a", 5), 7, "b", 5)).byTag(map[int]int{3: 13})
	clear(b[288:])
	benchOf(t, b).byTag(map[int]int{3: 13})
}

func TestByTagOfWhatIsFreed(t *testing.T) {
	s := benchOf(t, make([]byte, 400))
	a, c, e := s.alloc(10, 0), s.alloc(20, 15), s.alloc(30, 0)
	s.byTag(map[int]int{0: 40, 15: 20})
	s.free(a)
	s.byTag(map[int]int{0: 30, 15: 20})
	s.free(c)
	s.byTag(map[int]int{0: 30})
	s.alloc(7, 2)
	s.byTag(map[int]int{0: 30, 2: 7})
	s.free(e)
	s.byTag(map[int]int{2: 7})
	s.free(a) // its handle was given anew
	s.byTag(nil)
}
