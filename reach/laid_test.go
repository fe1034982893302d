package reach_test

import (
	"bytes"
	"math"
	"slices"
	"testing"

	"vaultkeel/api"
	"vaultkeel/check"
	"vaultkeel/heap"
	"vaultkeel/plain"
	"vaultkeel/reach"
	"vaultkeel/root"
)

// noHandles are numbers that are no handle; some of them are, in 8, 16 or 32 bits, that of an object.
var noHandles = []int{0, -1, 41, 42, 255, 256, 257, 258, 296, -2, -40, 1<<16 + 1, 1<<32 + 1, -1<<32 + 1, math.MaxInt, math.MaxInt - 1, math.MinInt, math.MinInt + 1}

// rootNames are those of the roots at places 0 to 7.
var rootNames = []string{"h", "gg", "fff", "eeee", "ddddd", "cccccc", "bbbbbbb", "eightlet"}

// thing is an object that is to be laid.
type thing struct {
	handle, tag int
	body        []byte
}

// names gives an object that names others, and has no more bytes than these.
func names(handle int, others ...byte) thing { return thing{handle, len(others), others} }

// leaf gives an object that names nobody, though its bytes are handles.
func leaf(handle int) thing { return thing{handle, 0, []byte{1, 2, 3, 4, 5}} }

// object gives a copy of b in which the five bytes of a handle are these.
func object(b []byte, handle, first, at, length int) []byte {
	return replaced(b, 5*(handle-1), byte(first), byte(at%256), byte(at/256), byte(length%256), byte(length/256))
}

// lead gives a copy of b in which a root is at a place; with no name and the handle 0 there is none.
func lead(b []byte, i int, name string, handle int) []byte {
	row := make([]byte, 11)
	copy(row, name)
	row[10] = byte(handle)
	return replaced(b, 200+11*i, row...)
}

// replaced gives a copy of b with other bytes from at on.
func replaced(b []byte, at int, row ...byte) []byte {
	return slices.Concat(b[:at], row, b[at+len(row):])
}

// laid gives an image of n bytes with these objects, the last one first, a byte free ahead of each, and with roots that lead to handles, at places 0, 1, ..; where one is 0, there is no root. All bytes that nobody has are handles.
func laid(n int, leads []int, things ...thing) []byte {
	b := make([]byte, n)
	for i := 288; i < n; i++ {
		b[i] = byte(1 + i*7%40)
	}
	at := n
	for _, o := range things {
		at -= len(o.body)
		b = object(replaced(b, at, o.body...), o.handle, o.tag+1, at, len(o.body))
		at--
	}
	for i, handle := range leads {
		if handle != 0 {
			b = lead(b, i, rootNames[i], handle)
		}
	}
	return b
}

// everyone gives 40 objects; the first of their bytes is what next says of their handles, others are not theirs to name by.
func everyone(next func(handle int) byte) []thing {
	var l []thing
	for handle := 1; handle <= 40; handle++ {
		l = append(l, thing{handle, 1, []byte{next(handle), 40, 1, 17}})
	}
	return l
}

// objectsOf reads the handles of all objects of an image, by hand.
func objectsOf(b []byte) []int {
	var l []int
	for handle := 1; handle <= 40; handle++ {
		if b[5*(handle-1)] != 0 {
			l = append(l, handle)
		}
	}
	return l
}

// upTo gives the numbers from 1 to n.
func upTo(n int) []int {
	var l []int
	for i := 1; i <= n; i++ {
		l = append(l, i)
	}
	return l
}

// without gives a list without some numbers.
func without(l, gone []int) []int {
	return slices.DeleteFunc(slices.Clone(l), func(x int) bool { return slices.Contains(gone, x) })
}

// spoil writes over all memory of a list, that behind its length too.
func spoil(l []int) {
	l = l[:cap(l)]
	for i := range l {
		l[i] = 99
	}
}

// bench is a Heap and the image that it must have.
type bench struct {
	t    *testing.T
	heap *heap.Heap
	now  []byte
}

func benchOf(t *testing.T, b []byte) *bench {
	t.Helper()
	h, err := heap.Load(b)
	if err != nil {
		t.Fatalf("Load of a Heap: %v", err)
	}
	s := &bench{t: t, heap: h, now: slices.Clone(b)}
	s.want("Load")
	return s
}

// want asks for the image, byte for byte, and that no fault is there.
func (s *bench) want(what string) {
	s.t.Helper()
	if got := s.heap.Bytes(); !bytes.Equal(got, s.now) {
		s.t.Fatalf("behind %s: the image of %d bytes is another one: %v", what, len(got), got[:min(288, len(got))])
	}
	if l, err := check.Check(s.now); len(l) != 0 || err != nil {
		s.t.Fatalf("behind %s: the image has faults: %v, %v", what, l, err)
	}
}

// refs asks Refs twice, and writes over what it gave, so that the second time tells if that was not fresh.
func (s *bench) refs(handle int, want ...int) {
	s.t.Helper()
	for range 2 {
		got, err := reach.Refs(s.heap, handle)
		if !slices.Equal(got, want) || err != nil {
			s.t.Fatalf("Refs(%d): got %v, %v; want %v", handle, got, err, want)
		}
		spoil(got)
		s.want("Refs")
	}
}

func (s *bench) noRefs(handle int, want api.Errno) {
	s.t.Helper()
	for range 2 {
		if got, err := reach.Refs(s.heap, handle); len(got) != 0 || plain.Told(err) != want {
			s.t.Fatalf("Refs(%d): got %v, %v; want none, %v", handle, got, err, want)
		}
		s.want("Refs with an error")
	}
}

// live asks that just these objects are live, and that all others are dead and have no Path.
func (s *bench) live(want ...int) {
	s.t.Helper()
	dead := without(objectsOf(s.now), want)
	for range 2 {
		got := reach.Live(s.heap)
		if !slices.Equal(got, want) {
			s.t.Fatalf("Live: got %v; want %v", got, want)
		}
		spoil(got)
		s.want("Live")
		got = reach.Dead(s.heap)
		if !slices.Equal(got, dead) {
			s.t.Fatalf("Dead: got %v; want %v", got, dead)
		}
		spoil(got)
		s.want("Dead")
	}
	for _, handle := range dead {
		s.noPath(handle, api.ErrNone)
	}
}

// dead asks Dead for these objects, which are written out and not what is left of an image.
func (s *bench) dead(want ...int) {
	s.t.Helper()
	if got := reach.Dead(s.heap); !slices.Equal(got, want) {
		s.t.Fatalf("Dead: got %v; want %v", got, want)
	}
	s.want("Dead")
}

// path asks Path for just this way, which ends with the object that is asked for.
func (s *bench) path(want ...int) {
	s.t.Helper()
	handle := want[len(want)-1]
	for range 2 {
		got, err := reach.Path(s.heap, handle)
		if !slices.Equal(got, want) || err != nil {
			s.t.Fatalf("Path(%d): got %v, %v; want %v", handle, got, err, want)
		}
		spoil(got)
		s.want("Path")
	}
}

func (s *bench) noPath(handle int, want api.Errno) {
	s.t.Helper()
	for range 2 {
		if got, err := reach.Path(s.heap, handle); len(got) != 0 || plain.Told(err) != want {
			s.t.Fatalf("Path(%d): got %v, %v; want none, %v", handle, got, err, want)
		}
		s.want("Path with an error")
	}
}

// sweep asks that just these objects are freed, that all else stays byte for byte, and that a second time there is nothing.
func (s *bench) sweep(want ...int) {
	s.t.Helper()
	left := without(objectsOf(s.now), want)
	for _, handle := range want {
		s.now = object(s.now, handle, 0, 0, 0)
	}
	for _, n := range []int{len(want), 0} {
		if got, err := reach.Sweep(s.heap); got != n || err != nil {
			s.t.Fatalf("Sweep: got %d, %v; want %d", got, err, n)
		}
		s.want("Sweep")
		s.live(left...)
		s.dead()
	}
}

func (s *bench) write(handle, at int, b ...byte) {
	s.t.Helper()
	if err := s.heap.Write(handle, at, b); err != nil {
		s.t.Fatalf("Write(%d): %v", handle, err)
	}
	row := s.now[5*(handle-1):]
	s.now = replaced(s.now, int(row[1])+256*int(row[2])+at, b...)
	s.want("Write")
}

// alloc asks for an object, wherever it stands: that is no matter of who is led to.
func (s *bench) alloc(n, tag, handle int) {
	s.t.Helper()
	got, err := s.heap.Alloc(n, tag)
	if got != handle || err != nil {
		s.t.Fatalf("Alloc(%d, %d): got %d, %v; want %d", n, tag, got, err, handle)
	}
	s.now = s.heap.Bytes()
}

func (s *bench) free(handle int) {
	s.t.Helper()
	if err := s.heap.Free(handle); err != nil {
		s.t.Fatalf("Free(%d): %v", handle, err)
	}
	s.now = object(s.now, handle, 0, 0, 0)
	s.want("Free")
}

func (s *bench) set(name string, handle int) {
	s.t.Helper()
	if _, err := root.Set(s.heap, name, handle); err != nil {
		s.t.Fatalf("Set(%q, %d): %v", name, handle, err)
	}
	s.now = s.heap.Bytes()
}

func (s *bench) unset(name string) {
	s.t.Helper()
	if err := root.Unset(s.heap, name); err != nil {
		s.t.Fatalf("Unset(%q): %v", name, err)
	}
	s.now = s.heap.Bytes()
}
