package stat_test

import (
	"bytes"
	"slices"
	"testing"

	"vaultkeel/api"
	"vaultkeel/heap"
	"vaultkeel/plain"
	"vaultkeel/stat"
)

// thing is an object that is to be laid.
type thing struct{ handle, tag, at, size int }

// laid gives an image of n bytes with these objects; what stands behind Head, theirs or nobody's, is not 0.
func laid(n int, things ...thing) []byte {
	b := make([]byte, n)
	for i := 288; i < n; i++ {
		b[i] = byte(1 + i*37%255)
	}
	for _, o := range things {
		copy(b[5*(o.handle-1):], []byte{byte(o.tag + 1), byte(o.at % 256), byte(o.at / 256), byte(o.size % 256), byte(o.size / 256)})
	}
	return b
}

// lead gives a copy of b in which a root is at a place.
func lead(b []byte, i int, name string, handle int) []byte {
	out := slices.Clone(b)
	copy(out[200+11*i:], name)
	out[210+11*i] = byte(handle)
	return out
}

// some gives an image of 400 bytes with the objects 7, 2 and 40, in this order, a free byte ahead of each, and roots that lead to two of them.
func some() []byte {
	b := laid(400, thing{7, 15, 289, 40}, thing{2, 0, 330, 20}, thing{40, 4, 351, 49})
	return lead(lead(b, 1, "main", 40), 6, "b", 2)
}

// full gives an image of 6400 bytes of which objects have all: six of 1000, 33 of 3, and one of 13, the last handle first.
func full() []byte {
	var things []thing
	at := 288
	for handle := 40; handle >= 1; handle-- {
		size := 3
		if handle <= 6 {
			size = 1000
		}
		if handle == 20 {
			size = 13
		}
		things = append(things, thing{handle, handle % 16, at, size})
		at += size
	}
	return laid(6400, things...)
}

// apart gives an image whose free runs are just so long, one behind the other, with an object of so many bytes between each two of them.
func apart(size int, runs ...int) []byte {
	var things []thing
	at := 288
	for i, run := range runs {
		at += run
		if i < len(runs)-1 {
			things = append(things, thing{40 - i, i % 16, at, size})
			at += size
		}
	}
	return laid(at, things...)
}

// times gives a list of one number, so many times.
func times(n, size int) []int { return slices.Repeat([]int{size}, n) }

// bench is a Heap and the image that it must have.
type bench struct {
	t    *testing.T
	heap *heap.Heap
	now  []byte
}

func benchOf(t *testing.T, b []byte) *bench {
	t.Helper()
	h, err := heap.Load(b)
	if err != nil {
		t.Fatalf("Load of a Heap: %v", err)
	}
	s := &bench{t: t, heap: h, now: slices.Clone(b)}
	s.want("Load")
	return s
}

// want asks for the image, byte for byte.
func (s *bench) want(what string) {
	s.t.Helper()
	if got := s.heap.Bytes(); !bytes.Equal(got, s.now) {
		s.t.Fatalf("behind %s: the image of %d bytes is another one", what, len(got))
	}
}

// stat asks Heap twice, as nothing is changed by it.
func (s *bench) stat(want api.Stat) {
	s.t.Helper()
	for range 2 {
		if got, err := stat.Heap(s.heap); got != want || err != nil {
			s.t.Fatalf("Heap: got %+v, %v; want %+v", got, err, want)
		}
		s.want("Heap")
	}
}

// around gives a list as a part of a greater one, whose other numbers are no sizes, so that what is read or written about it is told.
func around(l []int) (part, whole []int) {
	odd := times(250, -7)
	whole = slices.Concat(odd, l, odd)
	return whole[len(odd) : len(odd)+len(l)], whole
}

// asked asks Can, and that neither the sizes nor the Heap are changed.
func (s *bench) asked(sizes []int) (int, error) {
	s.t.Helper()
	part, whole := around(sizes)
	before := slices.Clone(whole)
	n, err := stat.Can(s.heap, part)
	if !slices.Equal(whole, before) {
		s.t.Errorf("Can(%v) wrote into what it was given", sizes)
	}
	for i := range whole {
		whole[i] = 1 // were they kept, the next call would tell it
	}
	s.want("Can")
	return n, err
}

// can asks Can twice, as nothing is changed by it.
func (s *bench) can(want int, sizes ...int) {
	s.t.Helper()
	for range 2 {
		if got, err := s.asked(sizes); got != want || err != nil {
			s.t.Fatalf("Can(%v): got %d, %v; want %d", sizes, got, err, want)
		}
	}
}

// noCan asks Can for an error, and nothing beside it.
func (s *bench) noCan(want api.Errno, sizes ...int) {
	s.t.Helper()
	for range 2 {
		if got, err := s.asked(sizes); got != 0 || plain.Told(err) != want {
			s.t.Fatalf("Can(%v): got %d, %v; want 0, %v", sizes, got, err, want)
		}
	}
}

// loose asks Loose twice, as nothing is changed by it.
func (s *bench) loose(want int) {
	s.t.Helper()
	for range 2 {
		if got, err := stat.Loose(s.heap); got != want || err != nil {
			s.t.Fatalf("Loose: got %d, %v; want %d", got, err, want)
		}
		s.want("Loose")
	}
}

// byTag asks ByTag for these bytes by tag, and 0 of all other tags; what is told is fresh each time.
func (s *bench) byTag(bytesOf map[int]int) {
	s.t.Helper()
	want := make([]int, 16)
	for tag, n := range bytesOf {
		want[tag] = n
	}
	first := stat.ByTag(s.heap)
	for range 2 {
		got := stat.ByTag(s.heap)
		if !slices.Equal(got, want) {
			s.t.Fatalf("ByTag: got %v; want %v", got, want)
		}
		got = got[:cap(got)]
		for i := range got {
			got[i] = -1
		}
		s.want("ByTag")
	}
	if !slices.Equal(first, want) {
		s.t.Fatalf("ByTag: two answers share memory: %v", first)
	}
}

func (s *bench) alloc(n, tag int) int {
	s.t.Helper()
	handle, err := s.heap.Alloc(n, tag)
	if err != nil {
		s.t.Fatalf("Alloc(%d, %d): %v", n, tag, err)
	}
	s.now = s.heap.Bytes()
	return handle
}

func (s *bench) free(handle int) {
	s.t.Helper()
	if err := s.heap.Free(handle); err != nil {
		s.t.Fatalf("Free(%d): %v", handle, err)
	}
	s.now = s.heap.Bytes()
}

// The images that are laid for these tests are what they are said to be.
func TestLaid(t *testing.T) {
	for _, c := range []struct {
		image []byte
		runs  []int
	}{
		{laid(288), nil},
		{laid(400), []int{112}},
		{some(), []int{1, 1, 1}},
		{full(), nil},
		{apart(9, 4, 7, 1), []int{4, 7, 1}},
		{apart(9, 0, 7, 0, 2), []int{7, 2}},
	} {
		if got := runsOf(ownersOf(c.image)); !slices.Equal(got, c.runs) {
			t.Errorf("an image of %d bytes has the runs %v; want %v", len(c.image), got, c.runs)
		}
	}
}
