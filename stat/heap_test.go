package stat_test

import (
	"testing"

	"vaultkeel/api"
)

func TestHeapWithNothing(t *testing.T) {
	for _, n := range []int{289, 290, 320, 400, 1288, 6399, 6400} {
		want := api.Stat{Free: n - 288, Most: n - 288, Runs: 1}
		benchOf(t, make([]byte, n)).stat(want)
		benchOf(t, laid(n)).stat(want) // bytes that nobody has are free, whatever they are
	}
}

// In the smallest image there is nothing behind Head: nothing is free, and no run is there.
func TestHeapOfHeadAlone(t *testing.T) {
	benchOf(t, make([]byte, 288)).stat(api.Stat{})
	benchOf(t, laid(288)).stat(api.Stat{})
}

func TestHeapWithOneObject(t *testing.T) {
	for _, c := range []struct {
		n    int
		o    thing
		want api.Stat
	}{
		{289, thing{1, 0, 288, 1}, api.Stat{Objects: 1, Used: 1}},
		{290, thing{1, 0, 288, 1}, api.Stat{Objects: 1, Used: 1, Free: 1, Most: 1, Runs: 1}},
		{290, thing{40, 15, 289, 1}, api.Stat{Objects: 1, Used: 1, Free: 1, Most: 1, Runs: 1}},
		{400, thing{7, 3, 288, 12}, api.Stat{Objects: 1, Used: 12, Free: 100, Most: 100, Runs: 1}},
		{400, thing{7, 3, 388, 12}, api.Stat{Objects: 1, Used: 12, Free: 100, Most: 100, Runs: 1}},
		{400, thing{7, 3, 298, 12}, api.Stat{Objects: 1, Used: 12, Free: 100, Most: 90, Runs: 2}},
		{400, thing{7, 3, 378, 12}, api.Stat{Objects: 1, Used: 12, Free: 100, Most: 90, Runs: 2}},
		{400, thing{7, 3, 338, 12}, api.Stat{Objects: 1, Used: 12, Free: 100, Most: 50, Runs: 2}},
		{400, thing{7, 3, 288, 112}, api.Stat{Objects: 1, Used: 112}},
		{1288, thing{7, 3, 288, 1000}, api.Stat{Objects: 1, Used: 1000}},
		{6400, thing{7, 3, 5400, 1000}, api.Stat{Objects: 1, Used: 1000, Free: 5112, Most: 5112, Runs: 1}},
		{6400, thing{7, 3, 6399, 1}, api.Stat{Objects: 1, Used: 1, Free: 6111, Most: 6111, Runs: 1}},
	} {
		benchOf(t, laid(c.n, c.o)).stat(c.want)
	}
}

func TestHeapWithObjectsSideBySide(t *testing.T) {
	benchOf(t, laid(400, thing{3, 1, 288, 5}, thing{1, 2, 293, 7}, thing{2, 3, 300, 100})).
		stat(api.Stat{Objects: 3, Used: 112})
	benchOf(t, laid(400, thing{3, 1, 288, 5}, thing{1, 2, 293, 7}, thing{2, 3, 300, 50})).
		stat(api.Stat{Objects: 3, Used: 62, Free: 50, Most: 50, Runs: 1})
	benchOf(t, laid(400, thing{3, 1, 388, 5}, thing{1, 2, 393, 7}, thing{2, 3, 338, 50})).
		stat(api.Stat{Objects: 3, Used: 62, Free: 50, Most: 50, Runs: 1})
	benchOf(t, laid(400, thing{3, 1, 300, 5}, thing{1, 2, 305, 7}, thing{2, 3, 312, 50})).
		stat(api.Stat{Objects: 3, Used: 62, Free: 50, Most: 38, Runs: 2})
}

func TestHeapWithRunsBetween(t *testing.T) {
	for _, c := range []struct {
		size int
		runs []int
		want api.Stat
	}{
		{9, []int{5, 5, 5}, api.Stat{Objects: 2, Used: 18, Free: 15, Most: 5, Runs: 3}},
		{9, []int{0, 5, 5, 0}, api.Stat{Objects: 3, Used: 27, Free: 10, Most: 5, Runs: 2}},
		{9, []int{8, 5, 3}, api.Stat{Objects: 2, Used: 18, Free: 16, Most: 8, Runs: 3}},
		{9, []int{3, 8, 5}, api.Stat{Objects: 2, Used: 18, Free: 16, Most: 8, Runs: 3}},
		{9, []int{3, 5, 8}, api.Stat{Objects: 2, Used: 18, Free: 16, Most: 8, Runs: 3}},
		{1, []int{0, 1, 0, 0, 2, 0}, api.Stat{Objects: 5, Used: 5, Free: 3, Most: 2, Runs: 2}},
		{100, []int{700, 1, 1200, 4}, api.Stat{Objects: 3, Used: 300, Free: 1905, Most: 1200, Runs: 4}},
	} {
		benchOf(t, apart(c.size, c.runs...)).stat(c.want)
	}
	benchOf(t, some()).stat(api.Stat{Objects: 3, Used: 109, Free: 3, Most: 1, Runs: 3})
}

// Forty objects leave at most forty-one runs.
func TestHeapWithTheMostRuns(t *testing.T) {
	benchOf(t, apart(1, times(41, 1)...)).stat(api.Stat{Objects: 40, Used: 40, Free: 41, Most: 1, Runs: 41})
	benchOf(t, apart(100, times(41, 51)...)).stat(api.Stat{Objects: 40, Used: 4000, Free: 2091, Most: 51, Runs: 41})
}

func TestHeapThatIsFull(t *testing.T) {
	benchOf(t, full()).stat(api.Stat{Objects: 40, Used: 6112})
	benchOf(t, apart(7, times(41, 0)...)).stat(api.Stat{Objects: 40, Used: 280})
}

// With each call on the Heap it tells what is there then; what is freed is free, and joins what is free beside it.
func TestHeapFromCallToCall(t *testing.T) {
	s := benchOf(t, make([]byte, 400))
	a, c, e := s.alloc(10, 1), s.alloc(20, 2), s.alloc(30, 3)
	s.stat(api.Stat{Objects: 3, Used: 60, Free: 52, Most: 52, Runs: 1})
	s.free(a)
	s.stat(api.Stat{Objects: 2, Used: 50, Free: 62, Most: 52, Runs: 2})
	s.free(e)
	s.stat(api.Stat{Objects: 1, Used: 20, Free: 92, Most: 82, Runs: 2})
	s.free(c)
	s.stat(api.Stat{Free: 112, Most: 112, Runs: 1})
}

// Roots are ahead of Head: they take nothing.
func TestHeapWithRoots(t *testing.T) {
	b := laid(400, thing{5, 1, 300, 10})
	want := api.Stat{Objects: 1, Used: 10, Free: 102, Most: 90, Runs: 2}
	benchOf(t, b).stat(want)
	for i, name := range []string{"h", "gg", "fff", "eeee", "ddddd", "cccccc", "bbbbbbb", "eightlet"} {
		b = lead(b, i, name, 5)
		benchOf(t, b).stat(want)
	}
}
