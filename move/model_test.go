package move_test

import (
	"bytes"
	"math/rand"
	"slices"
	"testing"

	"vaultkeel/api"
	"vaultkeel/heap"
	"vaultkeel/reach"
	"vaultkeel/undo"
)

// next tells, byte by byte, which object a Step moves, and to where; 0: none.
func next(b []byte) (handle, at int) {
	for i, owner := range ownersOf(b) {
		if owner == 0 && at == 0 {
			at = 288 + i
		}
		if owner != 0 && at != 0 {
			return owner, at
		}
	}
	return 0, 0
}

// asModel asks all of a Heap, step by step till there is none, each held against what is told byte by byte; the Heap itself stays.
func (s *bench) asModel() {
	s.t.Helper()
	free, most, _ := freesOf(s.now)
	s.gain(free - most)
	stepped, n := benchOf(s.t, s.now), 0
	for handle, at := next(stepped.now); handle != 0; handle, at = next(stepped.now) {
		stepped.step(handle, at)
		n++
	}
	stepped.noStep()
	copied := benchOf(s.t, s.now)
	copied.all(n)
	if !bytes.Equal(copied.now, stepped.now) {
		s.t.Fatal("behind All the image is another one than behind all Steps")
	}
	copied.allocs()
	s.want("calls on copies")
}

// allocs asks that the one run behind All is room for one object, or for several where it is longer than an object may be.
func (s *bench) allocs() {
	s.t.Helper()
	free, _, _ := freesOf(s.now)
	for free > 0 && len(byPlace(s.now)) < 40 {
		n := min(free, api.MaxObject)
		handle, err := s.heap.Alloc(n, 1)
		if err != nil {
			s.t.Fatalf("Alloc(%d, 1) behind All: got %d, %v", n, handle, err)
		}
		s.now = s.heap.Bytes()
		free -= n
	}
	s.noAlloc(1, api.ErrFull)
}

// everyLayout gives all ways in which objects may stand in so many bytes, from a place on: their extents, rising.
func everyLayout(at, n int) [][]api.Extent {
	if n == 0 {
		return [][]api.Extent{nil}
	}
	l := everyLayout(at+1, n-1) // the first byte is free
	for size := 1; size <= n; size++ {
		for _, rest := range everyLayout(at+size, n-size) {
			l = append(l, append([]api.Extent{{At: at, Len: size}}, rest...))
		}
	}
	return l
}

func TestEveryLayoutOfSevenBytes(t *testing.T) {
	r := rand.New(rand.NewSource(7))
	for n := range 8 {
		for _, l := range everyLayout(288, n) {
			handles := r.Perm(40)
			var things []thing
			for i, e := range l {
				things = append(things, thing{1 + handles[i], e.At, e.Len})
			}
			benchOf(t, laid(288+n, things...)).asModel()
		}
	}
}

// drawn gives an image with drawn objects, of up to a size, and gaps of up to another, till no handle or no room is left.
func drawn(r *rand.Rand, n, size, gap int) []byte {
	b := make([]byte, n)
	r.Read(b[288:])
	handles := r.Perm(40)[:1+r.Intn(40)]
	at := 288
	for _, i := range handles {
		if r.Intn(3) > 0 {
			at += r.Intn(gap + 1)
		}
		length := 1 + r.Intn(size)
		if at+length > n {
			length = n - at // the last one ends at the last byte
		}
		if length <= 0 {
			break
		}
		b = object(b, 1+i, 1+r.Intn(16), at, length)
		at += length
	}
	objects := byPlace(b)
	for i, name := range rootNames {
		if r.Intn(2) == 0 && len(objects) > 0 {
			b = lead(b, i, name, objects[r.Intn(len(objects))])
		}
	}
	return b
}

func TestDrawnHeaps(t *testing.T) {
	r := rand.New(rand.NewSource(14))
	for range 150 {
		benchOf(t, drawn(r, 288+r.Intn(60), 1+r.Intn(10), r.Intn(8))).asModel()
		benchOf(t, drawn(r, 400, 1+r.Intn(40), r.Intn(20))).asModel()
	}
	for range 20 {
		benchOf(t, drawn(r, 6400, 1000, 300)).asModel()
		benchOf(t, drawn(r, 6000+r.Intn(401), 200, 20)).asModel()
	}
}

// act does one drawn thing with a Heap, and tells what it was.
func (s *bench) act(r *rand.Rand, u *undo.Undo, marks map[int][]byte) string {
	s.t.Helper()
	objects := byPlace(s.now)
	handle := 0
	if len(objects) > 0 {
		handle = objects[r.Intn(len(objects))]
	}
	what := r.Intn(10)
	if handle == 0 && (what == 2 || what == 3 || what == 4) {
		return "nothing"
	}
	switch what {
	case 0, 1:
		if _, err := s.heap.Alloc(1+r.Intn(12), r.Intn(4)); err != nil {
			return "nothing"
		}
	case 2:
		if err := s.heap.Free(handle); err != nil {
			return "nothing"
		}
	case 3:
		s.write(handle, r.Intn(placeOf(s.now, handle).Len), byte(r.Intn(20)))
		return "write"
	case 4:
		s.set(rootNames[r.Intn(3)], handle)
		return "set"
	case 5:
		marks[u.Mark()] = s.heap.Bytes()
		return "mark"
	case 6:
		mark := 1 + r.Intn(len(marks)+1)
		if u.Back(mark) != nil {
			return "nothing"
		}
		s.now = bytes.Clone(marks[mark])
		s.want("Back")
		return "back"
	case 7:
		if n, err := reach.Sweep(s.heap); n == 0 || err != nil {
			return "nothing"
		}
	case 8:
		if moves, at := next(s.now); moves != 0 {
			s.step(moves, at)
			return "step"
		}
		s.noStep()
		return "nothing"
	case 9:
		_, n := closer(s.now)
		s.all(n)
		return "all"
	}
	s.now = s.heap.Bytes()
	return []string{"alloc", "alloc", "free", 7: "sweep"}[what]
}

// Drawn calls, one behind the other: behind each of them all is as in the image that is there then.
func TestDrawnCalls(t *testing.T) {
	r := rand.New(rand.NewSource(41))
	did := map[string]int{}
	for range 6 {
		h, err := heap.New(360)
		if err != nil {
			t.Fatal(err)
		}
		s := &bench{t: t, heap: h, now: make([]byte, 360)}
		u, marks := undo.New(h), map[int][]byte{}
		for range 300 {
			did[s.act(r, u, marks)]++
			s.asModel()
		}
	}
	for _, what := range []string{"alloc", "free", "write", "set", "mark", "back", "sweep", "step", "all"} {
		if did[what] < 20 {
			t.Errorf("%s was drawn %d times: the drawn calls do not ask enough: %v", what, did[what], did)
		}
	}
}

// The images that are laid for these tests are what they are said to be.
func TestLaid(t *testing.T) {
	if free, most, runs := freesOf(some()); free != 3 || most != 1 || runs != 3 {
		t.Errorf("some: %d %d %d", free, most, runs)
	}
	if free, _, _ := freesOf(full()); free != 0 {
		t.Errorf("full: %d bytes are free", free)
	}
	if free, most, runs := freesOf(many(2)); free != 112 || most != 32 || runs != 41 {
		t.Errorf("many: %d %d %d", free, most, runs)
	}
	if got := byPlace(some()); !slices.Equal(got, []int{7, 2, 40}) {
		t.Errorf("some: %v", got)
	}
}
