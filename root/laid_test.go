package root_test

import (
	"bytes"
	"math"
	"slices"
	"strings"
	"testing"

	"vaultkeel/api"
	"vaultkeel/check"
	"vaultkeel/heap"
	"vaultkeel/plain"
	"vaultkeel/root"
)

// noHandles are numbers that are no handle; some of them are, in 8, 16 or 32 bits, that of an object.
var noHandles = []int{0, -1, 41, 42, 255, 256, 258, 263, -2, -40, 1<<16 + 2, 1<<32 + 2, -1<<32 + 2, math.MaxInt, math.MinInt, math.MinInt + 2}

// noTags are numbers that are no tag, and not -1 either.
var noTags = []int{-2, -3, 16, 17, 255, 256, -16, -256, 1 << 32, 1<<32 + 4, 1<<32 - 1, math.MaxInt, math.MinInt, math.MinInt + 4}

// eight names, of each length one, none beginning with another one.
var eight = []string{"h", "gg", "fff", "eeee", "ddddd", "cccccc", "bbbbbbb", "eightlet"}

// noNames gives texts that are no name, each sign that is no letter at the first, a middle and the last place among them.
func noNames() []string {
	l := []string{"", "eightlets", "main main", strings.Repeat("a", 9), strings.Repeat("a", 16), strings.Repeat("a", 264), strings.Repeat("\x00", 8), "main\x00\x00\x00\x00", "é", "aé"}
	for c := range 256 {
		if 'a' <= c && c <= 'z' {
			continue
		}
		s := string([]byte{byte(c)})
		l = append(l, s, s+"main", "ma"+s+"in", "main"+s, s+"ightlet", "eigh"+s+"let", "eightle"+s)
	}
	return l
}

// object gives a copy of b in which the five bytes of a handle are these.
func object(b []byte, handle, first, at, length int) []byte {
	return replaced(b, 5*(handle-1), byte(first), byte(at%256), byte(at/256), byte(length%256), byte(length/256))
}

// lead gives a copy of b in which a root is at a place; with no name and the handle 0 there is none.
func lead(b []byte, i int, name string, handle int) []byte {
	row := make([]byte, 11)
	copy(row, name)
	row[10] = byte(handle)
	return replaced(b, 200+11*i, row...)
}

// replaced gives a copy of b with other bytes from at on.
func replaced(b []byte, at int, row ...byte) []byte {
	return slices.Concat(b[:at], row, b[at+len(row):])
}

// laid gives an image of n bytes with nothing in it, but for bytes that nobody has, none of them 0.
func laid(n int) []byte {
	b := make([]byte, n)
	for i := 288; i < n; i++ {
		b[i] = byte(1 + i*37%255)
	}
	return b
}

// some gives an image of 400 bytes with the objects 1, 2, 7 and 40, of the tags 9, 0, 15 and 4, and no roots.
func some() []byte {
	b := object(laid(400), 1, 10, 329, 1)
	b = object(b, 2, 1, 330, 20)
	b = object(b, 7, 16, 289, 40)
	return object(b, 40, 5, 351, 49)
}

// led gives some with roots that lead to two of its objects, at two places between others.
func led() []byte { return lead(lead(some(), 1, "main", 40), 6, "b", 2) }

// full gives an image of 6400 bytes with forty objects and eight roots, which lead to 40, 35, .. and 5; the tag is what is left of a handle by 16.
func full() []byte {
	b := laid(6400)
	for handle := 1; handle <= 40; handle++ {
		b = object(b, handle, 1+handle%16, 6400-150*handle, 150)
	}
	for i, name := range eight {
		b = lead(b, i, name, 40-5*i)
	}
	return b
}

// rootsOf reads the roots of an image, by hand.
func rootsOf(b []byte) []api.Root {
	var l []api.Root
	for i := range 8 {
		row := b[200+11*i : 211+11*i]
		if row[10] != 0 {
			l = append(l, api.Root{Name: strings.TrimRight(string(row[:8]), "\x00"), Handle: int(row[10])})
		}
	}
	return l
}

// bench is a Heap and the image that it must have.
type bench struct {
	t    *testing.T
	heap *heap.Heap
	now  []byte
}

func benchOf(t *testing.T, b []byte) *bench {
	t.Helper()
	h, err := heap.Load(b)
	if err != nil {
		t.Fatalf("Load of a Heap: %v", err)
	}
	s := &bench{t: t, heap: h, now: slices.Clone(b)}
	s.want("Load")
	return s
}

// want asks for the image, byte for byte, for all roots, and that no fault is there; a Heap that is loaded of the image has the same roots.
func (s *bench) want(what string) {
	s.t.Helper()
	if got := s.heap.Bytes(); !bytes.Equal(got, s.now) {
		s.t.Fatalf("behind %s: the image of %d bytes is another one: %v", what, len(got), got[:min(288, len(got))])
	}
	if l, err := check.Check(s.now); len(l) != 0 || err != nil {
		s.t.Fatalf("behind %s: the image has faults: %v, %v", what, l, err)
	}
	twin, err := heap.Load(s.now)
	if err != nil {
		s.t.Fatalf("behind %s: Load: %v", what, err)
	}
	s.wantAll(what, s.heap)
	s.wantAll(what, twin)
}

// wantAll asks All twice, and writes over what it gave, so that the second time tells if that was not fresh.
func (s *bench) wantAll(what string, h *heap.Heap) {
	s.t.Helper()
	for range 2 {
		got := root.All(h)
		if want := rootsOf(s.now); !slices.Equal(got, want) {
			s.t.Fatalf("behind %s: All: got %v; want %v", what, got, want)
		}
		got = got[:cap(got)]
		for i := range got {
			got[i] = api.Root{Name: "other", Handle: 99}
		}
	}
}

// wantRoots asks All for these roots, which are written out and not read from an image.
func (s *bench) wantRoots(want ...api.Root) {
	s.t.Helper()
	if got := root.All(s.heap); !slices.Equal(got, want) {
		s.t.Errorf("All: got %v; want %v", got, want)
	}
}

// set asks that a name leads to an object, at just this place.
func (s *bench) set(name string, handle, place int, isNew bool) {
	s.t.Helper()
	got, err := root.Set(s.heap, name, handle)
	if got != isNew || err != nil {
		s.t.Fatalf("Set(%q, %d): got %v, %v; want %v", name, handle, got, err, isNew)
	}
	s.now = lead(s.now, place, name, handle)
	s.want("Set")
	s.get(name, -1, handle)
}

// noSet asks Set for an error, twice, as nothing is changed by it.
func (s *bench) noSet(name string, handle int, want api.Errno) {
	s.t.Helper()
	for range 2 {
		if got, err := root.Set(s.heap, name, handle); got || plain.Told(err) != want {
			s.t.Errorf("Set(%q, %d): got %v, %v; want false, %v", name, handle, got, err, want)
		}
		s.want("Set with an error")
	}
}

// unset asks that a name which stands at a place leads nowhere.
func (s *bench) unset(name string, place int) {
	s.t.Helper()
	if err := root.Unset(s.heap, name); err != nil {
		s.t.Fatalf("Unset(%q): %v", name, err)
	}
	s.now = lead(s.now, place, "", 0)
	s.want("Unset")
	s.noGet(name, -1, api.ErrNone)
}

func (s *bench) noUnset(name string, want api.Errno) {
	s.t.Helper()
	for range 2 {
		if err := root.Unset(s.heap, name); plain.Told(err) != want {
			s.t.Errorf("Unset(%q): got %v; want %v", name, err, want)
		}
		s.want("Unset with an error")
	}
}

func (s *bench) get(name string, tag, want int) {
	s.t.Helper()
	if got, err := root.Get(s.heap, name, tag); got != want || err != nil {
		s.t.Fatalf("Get(%q, %d): got %d, %v; want %d", name, tag, got, err, want)
	}
	s.want("Get")
}

func (s *bench) noGet(name string, tag int, want api.Errno) {
	s.t.Helper()
	for range 2 {
		if got, err := root.Get(s.heap, name, tag); got != 0 || plain.Told(err) != want {
			s.t.Errorf("Get(%q, %d): got %d, %v; want 0, %v", name, tag, got, err, want)
		}
		s.want("Get with an error")
	}
}

// free asks that an object is none, which no root hinders.
func (s *bench) free(handle int) {
	s.t.Helper()
	if err := s.heap.Free(handle); err != nil {
		s.t.Fatalf("Free(%d): %v", handle, err)
	}
	s.now = object(s.now, handle, 0, 0, 0)
	s.want("Free")
}

// noFree asks that a root hinders Free.
func (s *bench) noFree(handle int) {
	s.t.Helper()
	if err := s.heap.Free(handle); plain.Told(err) != api.ErrClash {
		s.t.Errorf("Free(%d): got %v; want ErrClash", handle, err)
	}
	s.want("Free with an error")
}

// alloc asks for an object, and that it has just this handle and stands just there, all 0.
func (s *bench) alloc(n, tag, handle, at int) {
	s.t.Helper()
	got, err := s.heap.Alloc(n, tag)
	if got != handle || err != nil {
		s.t.Fatalf("Alloc(%d, %d): got %d, %v; want %d", n, tag, got, err, handle)
	}
	s.now = object(replaced(s.now, at, make([]byte, n)...), handle, tag+1, at, n)
	s.want("Alloc")
}
