package stat_test

import (
	"math/rand"
	"slices"
	"testing"

	"vaultkeel/api"
	"vaultkeel/device"
	"vaultkeel/heap"
	"vaultkeel/move"
	"vaultkeel/reach"
	"vaultkeel/root"
	"vaultkeel/stat"
	"vaultkeel/store"
	"vaultkeel/undo"
)

// ownersOf tells of each byte behind Head which object has it, read by hand; 0: it is free.
func ownersOf(b []byte) []int {
	owners := make([]int, len(b)-288)
	for handle := 1; handle <= 40; handle++ {
		row := b[5*(handle-1):]
		at, size := int(row[1])+256*int(row[2]), int(row[3])+256*int(row[4])
		for i := range size {
			owners[at-288+i] = handle
		}
	}
	return owners
}

// runsOf counts free bytes, one by one: how long the runs are, in their order.
func runsOf(owners []int) []int {
	var runs []int
	for i, owner := range owners {
		if owner != 0 {
			continue
		}
		if i == 0 || owners[i-1] != 0 {
			runs = append(runs, 0)
		}
		runs[len(runs)-1]++
	}
	return runs
}

// statOf counts what an image has, byte by byte, and what objects of each tag have.
func statOf(b []byte) (api.Stat, map[int]int) {
	owners, tags := ownersOf(b), map[int]int{}
	s := api.Stat{}
	met := map[int]int{}
	for _, owner := range owners {
		if owner != 0 {
			s.Used++
			met[owner]++
			tags[int(b[5*(owner-1)])-1]++
		}
	}
	s.Objects = len(met)
	for _, run := range runsOf(owners) {
		s.Free += run
		s.Most = max(s.Most, run)
		s.Runs++
	}
	return s, tags
}

// canOf takes sizes out of runs, as these are long: where one fits is no matter, but how long the run is from which it is taken.
func canOf(runs []int, handles int, sizes []int) int {
	left := slices.Sorted(slices.Values(runs))
	for n, size := range sizes {
		i := slices.IndexFunc(left, func(run int) bool { return run >= size })
		if i < 0 || n == handles {
			return n
		}
		left[i] -= size
		slices.Sort(left)
	}
	return len(sizes)
}

// looseOf counts up hundredths of what is free, till one more would be too many.
func looseOf(s api.Stat) int {
	n := 0
	for s.Free > 0 && (n+1)*s.Free <= 100*(s.Free-s.Most) {
		n++
	}
	return n
}

// asModel asks all of a Heap, and holds it against what is counted byte by byte.
func (s *bench) asModel(r *rand.Rand) {
	s.t.Helper()
	want, tags := statOf(s.now)
	s.stat(want)
	s.loose(looseOf(want))
	s.byTag(tags)
	used := 0
	for _, n := range stat.ByTag(s.heap) {
		used += n
	}
	if used != want.Used {
		s.t.Fatalf("ByTag: %d bytes in all; Heap says that %d are used", used, want.Used)
	}
	runs := runsOf(ownersOf(s.now))
	for _, sizes := range [][]int{drawnSizes(r, 1+r.Intn(12), 1+want.Most), drawnSizes(r, r.Intn(60), 1+want.Most/5), fitting(r, runs)} {
		s.can(canOf(runs, 40-want.Objects, sizes), sizes...)
	}
}

func drawnSizes(r *rand.Rand, n, most int) []int {
	l := make([]int, n)
	for i := range l {
		l[i] = 1 + r.Intn(min(most, 1000))
	}
	return l
}

// fitting gives sizes that all runs just have room for, if each stands where it belongs, in a drawn order.
func fitting(r *rand.Rand, runs []int) []int {
	var l []int
	for _, run := range runs {
		for run > 0 {
			size := 1 + r.Intn(min(run, 1000))
			if r.Intn(2) == 0 {
				size = min(run, 1000)
			}
			l = append(l, size)
			run -= size
		}
	}
	r.Shuffle(len(l), func(i, j int) { l[i], l[j] = l[j], l[i] })
	return l[:min(len(l), 200)]
}

// everyLayout gives all ways in which objects may stand in so many bytes, from a place on: their extents, rising.
func everyLayout(at, n int) [][]api.Extent {
	if n == 0 {
		return [][]api.Extent{nil}
	}
	l := everyLayout(at+1, n-1) // the first byte is free
	for size := 1; size <= n; size++ {
		for _, rest := range everyLayout(at+size, n-size) {
			l = append(l, append([]api.Extent{{At: at, Len: size}}, rest...))
		}
	}
	return l
}

func TestEveryLayoutOfEightBytes(t *testing.T) {
	r := rand.New(rand.NewSource(8))
	for n := range 9 {
		for _, l := range everyLayout(288, n) {
			handles := r.Perm(40)
			var things []thing
			for i, e := range l {
				things = append(things, thing{1 + handles[i], r.Intn(16), e.At, e.Len})
			}
			benchOf(t, laid(288+n, things...)).asModel(r)
		}
	}
}

// drawn gives an image with drawn objects, of up to a size, and gaps of up to another, till no handle or no room is left.
func drawn(r *rand.Rand, n, size, gap int) []byte {
	var things []thing
	at := 288
	for _, i := range r.Perm(40)[:r.Intn(41)] {
		if r.Intn(3) > 0 {
			at += r.Intn(gap + 1)
		}
		length := min(1+r.Intn(size), n-at) // the last one ends at the last byte
		if length <= 0 {
			break
		}
		things = append(things, thing{1 + i, r.Intn(16), at, length})
		at += length
	}
	return laid(n, things...)
}

func TestDrawnHeaps(t *testing.T) {
	r := rand.New(rand.NewSource(18))
	for range 400 {
		benchOf(t, drawn(r, 288+r.Intn(60), 1+r.Intn(10), r.Intn(8))).asModel(r)
		benchOf(t, drawn(r, 400, 1+r.Intn(40), r.Intn(20))).asModel(r)
		benchOf(t, drawn(r, 288+r.Intn(1500), 1+r.Intn(60), r.Intn(40))).asModel(r)
	}
	for range 60 {
		benchOf(t, drawn(r, 6400, 1000, 300)).asModel(r)
		benchOf(t, drawn(r, 6000+r.Intn(401), 200, 20)).asModel(r)
		benchOf(t, drawn(r, 6400, 100, 150)).asModel(r)
	}
}

// act does one drawn thing with a Heap, and tells what it was.
func (s *bench) act(r *rand.Rand, u *undo.Undo) string {
	s.t.Helper()
	defer func() { s.now = s.heap.Bytes() }()
	var err error
	what := []string{"alloc", "alloc", "alloc", "free", "set", "mark", "back", "sweep", "step", "all"}[r.Intn(10)]
	switch what {
	case "alloc":
		_, err = s.heap.Alloc(1+r.Intn(12), r.Intn(16))
	case "free":
		err = s.heap.Free(1 + r.Intn(12))
	case "set":
		_, err = root.Set(s.heap, []string{"a", "b", "c"}[r.Intn(3)], 1+r.Intn(12))
	case "mark":
		u.Mark()
	case "back":
		marks := u.Marks()
		if len(marks) == 0 || r.Intn(3) > 0 {
			return "nothing"
		}
		err = u.Back(marks[r.Intn(len(marks))])
	case "sweep":
		if r.Intn(4) > 0 {
			return "nothing"
		}
		_, err = reach.Sweep(s.heap)
	case "step":
		_, err = move.Step(s.heap)
	case "all":
		if r.Intn(4) > 0 {
			return "nothing"
		}
		_, err = move.All(s.heap)
	}
	if err != nil {
		return "nothing"
	}
	return what
}

// Drawn calls, one behind the other: behind each of them all is as in the image that is there then.
func TestDrawnCalls(t *testing.T) {
	r := rand.New(rand.NewSource(81))
	did := map[string]int{}
	for range 8 {
		h, err := heap.New(400)
		if err != nil {
			t.Fatal(err)
		}
		s := &bench{t: t, heap: h, now: make([]byte, 400)}
		u := undo.New(h)
		for range 300 {
			did[s.act(r, u)]++
			s.asModel(r)
		}
	}
	for _, what := range []string{"alloc", "free", "set", "mark", "back", "sweep", "step", "all"} {
		if did[what] < 20 {
			t.Errorf("%s was drawn %d times: the drawn calls do not ask enough: %v", what, did[what], did)
		}
	}
}

// The Heap of a Store is asked as it is now, committed or not; and asking it leaves nothing to commit.
func TestHeapOfAStore(t *testing.T) {
	d, err := device.New(60)
	if err != nil {
		t.Fatal(err)
	}
	kept, err := store.Create(d)
	if err != nil {
		t.Fatal(err)
	}
	s := &bench{t: t, heap: kept.Heap(), now: make([]byte, 384)}
	s.stat(api.Stat{Free: 96, Most: 96, Runs: 1})
	s.alloc(16, 3)
	if err := kept.Commit(); err != nil {
		t.Fatal(err)
	}
	s.alloc(40, 4)
	s.stat(api.Stat{Objects: 2, Used: 56, Free: 40, Most: 40, Runs: 1})
	s.can(1, 40, 1)
	kept.Abort()
	s.now = s.heap.Bytes()
	s.stat(api.Stat{Objects: 1, Used: 16, Free: 80, Most: 80, Runs: 1})
	s.can(2, 40, 40)
	s.loose(0)
	s.byTag(map[int]int{3: 16})
	if l := kept.Dirty(); len(l) != 0 {
		t.Errorf("Dirty: got %v; want none", l)
	}
}
