package move_test

import (
	"bytes"
	"fmt"
	"slices"
	"testing"

	"vaultkeel/api"
	"vaultkeel/check"
	"vaultkeel/heap"
	"vaultkeel/move"
	"vaultkeel/plain"
	"vaultkeel/root"
)

// rootNames are those of the roots at places 0 to 7.
var rootNames = []string{"h", "gg", "fff", "eeee", "ddddd", "cccccc", "bbbbbbb", "eightlet"}

// thing is an object that is to be laid; its tag is what is left of its handle by 16.
type thing struct{ handle, at, size int }

// object gives a copy of b in which the five bytes of a handle are these.
func object(b []byte, handle, first, at, length int) []byte {
	return replaced(b, 5*(handle-1), byte(first), byte(at%256), byte(at/256), byte(length%256), byte(length/256))
}

// lead gives a copy of b in which a root is at a place; with no name and the handle 0 there is none.
func lead(b []byte, i int, name string, handle int) []byte {
	row := make([]byte, 11)
	copy(row, name)
	row[10] = byte(handle)
	return replaced(b, 200+11*i, row...)
}

// replaced gives a copy of b with other bytes from at on.
func replaced(b []byte, at int, row ...byte) []byte {
	return slices.Concat(b[:at], row, b[at+len(row):])
}

// laid gives an image of n bytes with these objects. What stands there is theirs: bytes that are not 0, others at each place, and such as nobody has, too.
func laid(n int, things ...thing) []byte {
	b := make([]byte, n)
	for i := 288; i < n; i++ {
		b[i] = byte(1 + (i*37+i/255)%255)
	}
	for _, o := range things {
		b = object(b, o.handle, 1+o.handle%16, o.at, o.size)
	}
	return b
}

// some gives an image of 400 bytes with the objects 7, 2 and 40, in this order, a free byte ahead of each, and roots that lead to two of them.
func some() []byte {
	b := laid(400, thing{7, 289, 40}, thing{2, 330, 20}, thing{40, 351, 49})
	return lead(lead(b, 1, "main", 40), 6, "b", 2)
}

// many gives an image of 6400 bytes with forty objects of 150 bytes, the last handle first, and eight roots; ahead of each object is a gap of so many free bytes (0 to 2), and what is left is free behind the last one.
func many(gap int) []byte {
	var things []thing
	for i := range 40 {
		things = append(things, thing{40 - i, 288 + gap + (150+gap)*i, 150})
	}
	b := laid(6400, things...)
	for i, name := range rootNames {
		b = lead(b, i, name, 40-5*i)
	}
	return b
}

// full gives an image of which objects have all bytes: six of 1000, 33 of 3, and one of 13, the last handle first.
func full() []byte {
	var things []thing
	at := 288
	for handle := 40; handle >= 1; handle-- {
		size := 3
		if handle <= 6 {
			size = 1000
		}
		if handle == 20 {
			size = 13
		}
		things = append(things, thing{handle, at, size})
		at += size
	}
	return laid(6400, things...)
}

// placeOf reads where an object stands, by hand.
func placeOf(b []byte, handle int) api.Extent {
	row := b[5*(handle-1):]
	return api.Extent{At: int(row[1]) + 256*int(row[2]), Len: int(row[3]) + 256*int(row[4])}
}

// ownersOf tells of each byte of an image which object has it; 0: it is free. What is ahead of 288 is left out.
func ownersOf(b []byte) []int {
	owners := make([]int, len(b)-288)
	for handle := 1; handle <= 40; handle++ {
		if e := placeOf(b, handle); b[5*(handle-1)] != 0 {
			for i := range e.Len {
				owners[e.At-288+i] = handle
			}
		}
	}
	return owners
}

// byPlace gives the handles of all objects in the order in which they stand.
func byPlace(b []byte) []int {
	return slices.DeleteFunc(slices.Compact(ownersOf(b)), func(handle int) bool { return handle == 0 })
}

// freesOf counts free bytes, one by one: all, the longest run, and how many runs.
func freesOf(b []byte) (free, most, runs int) {
	length := 0
	for _, owner := range ownersOf(b) {
		if owner != 0 {
			length = 0
			continue
		}
		if length == 0 {
			runs++
		}
		length++
		free++
		most = max(most, length)
	}
	return free, most, runs
}

// shifted gives a copy of an image in which an object stands at another place; where it stood all bytes stay that it does not have now.
func shifted(b []byte, handle, at int) []byte {
	e := placeOf(b, handle)
	body := slices.Clone(b[e.At : e.At+e.Len])
	return object(replaced(b, at, body...), handle, int(b[5*(handle-1)]), at, e.Len)
}

// closer gives an image behind All, and how many moved: one object after the other, as they stand, is held against where it would stand with nothing free ahead.
func closer(b []byte) ([]byte, int) {
	at, n := 288, 0
	for _, handle := range byPlace(b) {
		if placeOf(b, handle).At != at {
			b = shifted(b, handle, at)
			n++
		}
		at += placeOf(b, handle).Len
	}
	return b, n
}

// tells gives all that a Heap says by handles and roots, of which nothing may hang on where things stand.
func tells(h *heap.Heap) string {
	var out bytes.Buffer
	for handle := 0; handle <= 41; handle++ {
		tag, err := h.Tag(handle)
		fmt.Fprintln(&out, handle, tag, err)
		size, err := h.Size(handle)
		fmt.Fprintln(&out, size, err)
		for _, part := range [][2]int{{0, size}, {0, 1}, {size - 1, 1}, {size / 2, size - size/2}, {1, size / 3}, {size, 0}, {0, size + 1}, {1, size}, {-1, 1}} {
			b, err := h.Read(handle, part[0], part[1])
			fmt.Fprintln(&out, len(b), err)
			out.Write(b)
		}
	}
	fmt.Fprintln(&out, root.All(h))
	for _, r := range root.All(h) {
		for tag := -1; tag <= 15; tag++ {
			handle, err := root.Get(h, r.Name, tag)
			fmt.Fprintln(&out, r.Name, tag, handle, err)
		}
	}
	return out.String()
}

// bench is a Heap and the image that it must have.
type bench struct {
	t    *testing.T
	heap *heap.Heap
	now  []byte
}

func benchOf(t *testing.T, b []byte) *bench {
	t.Helper()
	h, err := heap.Load(b)
	if err != nil {
		t.Fatalf("Load of a Heap: %v", err)
	}
	s := &bench{t: t, heap: h, now: slices.Clone(b)}
	s.want("Load")
	return s
}

// want asks for the image, byte for byte, and that no fault is there.
func (s *bench) want(what string) {
	s.t.Helper()
	if got := s.heap.Bytes(); !bytes.Equal(got, s.now) {
		s.t.Fatalf("behind %s: the image of %d bytes is another one: objects %v; want %v", what, len(got), ownersOf(got), ownersOf(s.now))
	}
	if l, err := check.Check(s.heap.Bytes()); len(l) != 0 || err != nil {
		s.t.Fatalf("behind %s: the image has faults: %v, %v", what, l, err)
	}
}

// wantSame asks that a Heap says what it said ahead, and has the same objects and roots as chapter 8 tells it.
func (s *bench) wantSame(what, said string, was []byte) {
	s.t.Helper()
	if got := tells(s.heap); got != said {
		s.t.Fatalf("behind %s: the Heap says %q; ahead it said %q", what, got, said)
	}
	if same, err := check.Same(was, s.heap.Bytes()); !same || err != nil {
		s.t.Fatalf("behind %s: Same: got %v, %v; want true", what, same, err)
	}
}

// step asks that just this object moves, to just this place.
func (s *bench) step(handle, at int) {
	s.t.Helper()
	said, was := tells(s.heap), s.now
	if got, err := move.Step(s.heap); !got || err != nil {
		s.t.Fatalf("Step: got %v, %v; want true", got, err)
	}
	s.now = shifted(s.now, handle, at)
	s.want("Step")
	s.wantSame("Step", said, was)
}

// noStep asks Step twice, as nothing is changed by it.
func (s *bench) noStep() {
	s.t.Helper()
	for range 2 {
		if got, err := move.Step(s.heap); got || err != nil {
			s.t.Fatalf("Step: got %v, %v; want false", got, err)
		}
		s.want("Step that moves nothing")
	}
}

// all asks that so many objects move, and what is true behind All.
func (s *bench) all(n int) {
	s.t.Helper()
	said, was := tells(s.heap), s.now
	if got, err := move.All(s.heap); got != n || err != nil {
		s.t.Fatalf("All: got %d, %v; want %d", got, err, n)
	}
	s.now, _ = closer(s.now)
	s.want("All")
	s.wantSame("All", said, was)
	s.wantOneRun(was)
	s.noStep()
	if got, err := move.All(s.heap); got != 0 || err != nil {
		s.t.Fatalf("a second All: got %d, %v; want 0", got, err)
	}
	s.want("a second All")
	s.gain(0)
}

// wantOneRun asks that the objects stand in the order in which they stood, and that as many bytes are free, in one run.
func (s *bench) wantOneRun(was []byte) {
	s.t.Helper()
	now := s.heap.Bytes()
	if got, want := byPlace(now), byPlace(was); !slices.Equal(got, want) {
		s.t.Fatalf("behind All: the objects stand in the order %v; want %v", got, want)
	}
	want, _, _ := freesOf(was)
	free, most, runs := freesOf(now)
	if free != want || most != free || runs > 1 {
		s.t.Fatalf("behind All: %d free bytes in %d runs, the longest of %d; want %d in one run", free, runs, most, want)
	}
}

// gain asks Gain twice, as nothing is changed by it.
func (s *bench) gain(want int) {
	s.t.Helper()
	said := tells(s.heap)
	for range 2 {
		if got := move.Gain(s.heap); got != want {
			s.t.Fatalf("Gain: got %d; want %d", got, want)
		}
		s.want("Gain")
		s.wantSame("Gain", said, s.now)
	}
}

// alloc asks for an object, and that it has just this handle and stands just there, all 0.
func (s *bench) alloc(n, tag, handle, at int) {
	s.t.Helper()
	got, err := s.heap.Alloc(n, tag)
	if got != handle || err != nil {
		s.t.Fatalf("Alloc(%d, %d): got %d, %v; want %d", n, tag, got, err, handle)
	}
	s.now = object(replaced(s.now, at, make([]byte, n)...), handle, tag+1, at, n)
	s.want("Alloc")
}

func (s *bench) noAlloc(n int, want api.Errno) {
	s.t.Helper()
	if got, err := s.heap.Alloc(n, 0); got != 0 || plain.Told(err) != want {
		s.t.Fatalf("Alloc(%d, 0): got %d, %v; want 0, %v", n, got, err, want)
	}
	s.want("Alloc with an error")
}

func (s *bench) free(handle int) {
	s.t.Helper()
	if err := s.heap.Free(handle); err != nil {
		s.t.Fatalf("Free(%d): %v", handle, err)
	}
	s.now = object(s.now, handle, 0, 0, 0)
	s.want("Free")
}

// write asks that bytes are written where an object stands now.
func (s *bench) write(handle, at int, b ...byte) {
	s.t.Helper()
	if err := s.heap.Write(handle, at, b); err != nil {
		s.t.Fatalf("Write(%d, %d): %v", handle, at, err)
	}
	s.now = replaced(s.now, placeOf(s.now, handle).At+at, b...)
	s.want("Write")
}

// set asks for a root, at whatever place: that is no matter of where objects stand.
func (s *bench) set(name string, handle int) {
	s.t.Helper()
	if _, err := root.Set(s.heap, name, handle); err != nil {
		s.t.Fatalf("Set(%q, %d): %v", name, handle, err)
	}
	s.now = s.heap.Bytes()
}

func (s *bench) unset(name string) {
	s.t.Helper()
	if err := root.Unset(s.heap, name); err != nil {
		s.t.Fatalf("Unset(%q): %v", name, err)
	}
	s.now = s.heap.Bytes()
}
