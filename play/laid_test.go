package play_test

import (
	"bytes"
	"math"
	"slices"
	"testing"

	"vaultkeel/api"
	"vaultkeel/device"
	"vaultkeel/heap"
	"vaultkeel/plain"
	"vaultkeel/play"
	"vaultkeel/store"
)

// Ops, by the numbers of package api, with no field but those that they name.
func alloc(n, tag int) api.Op           { return api.Op{What: 1, Len: n, At: tag} }
func free(handle int) api.Op            { return api.Op{What: 2, Handle: handle} }
func set(name string, to int) api.Op    { return api.Op{What: 4, Name: name, Handle: to} }
func unset(name string) api.Op          { return api.Op{What: 5, Name: name} }
func write(to, at int, b []byte) api.Op { return api.Op{What: 3, Handle: to, At: at, Body: b} }

var (
	commit = api.Op{What: 6}
	abort  = api.Op{What: 7}
	pack   = api.Op{What: 8}
	sweep  = api.Op{What: 9}
)

// farNumbers are those that are none of anything.
var farNumbers = []int{math.MinInt, math.MinInt + 1, -1 << 32, -1 << 8, 1 << 31, 1 << 32, 1<<32 + 1, math.MaxInt - 1, math.MaxInt}

// noisy gives an op whose fields are those of another one, but for what it names itself.
func noisy(o, noise api.Op) api.Op {
	out := noise
	out.What = o.What
	out.Body = slices.Clone(noise.Body)
	switch o.What {
	case 1:
		out.Len, out.At = o.Len, o.At
	case 2:
		out.Handle = o.Handle
	case 3:
		out.Handle, out.At, out.Body = o.Handle, o.At, slices.Clone(o.Body)
	case 4:
		out.Name, out.Handle = o.Name, o.Handle
	case 5:
		out.Name = o.Name
	}
	return out
}

// noises are fields that would be wrong, and such as would be right, were they asked.
func noises() []api.Op {
	return []api.Op{
		{},
		{Handle: -7, At: math.MinInt, Len: math.MaxInt, Name: "A b", Body: slices.Repeat([]byte{255}, 2000)},
		{Handle: 1, At: 0, Len: 1, Name: "main", Body: []byte{1}},
	}
}

// object gives a copy of b in which the five bytes of a handle are these.
func object(b []byte, handle, first, at, length int) []byte {
	return replaced(b, 5*(handle-1), byte(first), byte(at%256), byte(at/256), byte(length%256), byte(length/256))
}

// rooted gives a copy of b in which a root is at a place; with neither a name nor a handle there is none.
func rooted(b []byte, i int, name string, handle int) []byte {
	row := make([]byte, 11)
	copy(row, name)
	row[10] = byte(handle)
	return replaced(b, 200+11*i, row...)
}

// replaced gives a copy of b with other bytes from at on.
func replaced(b []byte, at int, row ...byte) []byte {
	return slices.Concat(b[:at], row, b[at+len(row):])
}

// counted gives n bytes that rise, none of them 0; of two lists with other c below 255 no byte is the same at any place.
func counted(c, n int) []byte {
	b := make([]byte, n)
	for i := range b {
		b[i] = byte(1 + (31*c+i)%255)
	}
	return b
}

// differing gives the pages in which two images differ, byte by byte.
func differing(a, b []byte) (l []int) {
	for i := range a {
		if a[i] != b[i] && (len(l) == 0 || l[len(l)-1] != i/32) {
			l = append(l, i/32)
		}
	}
	return l
}

func wantTold(t *testing.T, what string, err error, told api.Errno) {
	t.Helper()
	if plain.Told(err) != told {
		t.Errorf("%s: got %v, want %v", what, err, told)
	}
}

func made(t *testing.T, n int) *device.Device {
	t.Helper()
	d, err := device.New(n)
	if err != nil {
		t.Fatalf("New(%d) of a device: %v", n, err)
	}
	return d
}

// twin gives another device with the same sectors, so that it may be opened, and the one that it was made of is as it was.
func twin(t *testing.T, d *device.Device) *device.Device {
	t.Helper()
	out := made(t, d.Len())
	for i := range d.Len() {
		b, err := d.Read(i)
		if err != nil {
			t.Fatalf("Read(%d) of the device: %v", i, err)
		}
		if err := out.Write(i, b); err != nil {
			t.Fatalf("Write(%d) of the device: %v", i, err)
		}
	}
	if err := out.Flush(); err != nil {
		t.Fatalf("Flush of the device: %v", err)
	}
	return out
}

// side is a Store to which ops are done, with a noise of its own.
type side struct {
	device *device.Device
	store  *store.Store
	heap   *heap.Heap
	noise  api.Op
}

// bench has Stores to which the same ops are done, and what each of them must have.
type bench struct {
	t         *testing.T
	sides     []side
	now, kept []byte // images
	stamp     int
}

// created gives Stores on new devices, with nothing in them.
func created(t *testing.T, n int) *bench {
	t.Helper()
	b := make([]byte, 32*min(n-48, 200))
	x := &bench{t: t, now: b, kept: b, stamp: 2}
	for _, noise := range noises() {
		d := made(t, n)
		s, err := store.Create(d)
		if err != nil {
			t.Fatalf("Create: %v", err)
		}
		x.sides = append(x.sides, side{d, s, s.Heap(), noise})
	}
	return x
}

// do an op, on all sides; what was handed in is written over behind it.
func (x *bench) do(o api.Op, told api.Errno) {
	x.t.Helper()
	for i, s := range x.sides {
		given := noisy(o, s.noise)
		was := slices.Clone(given.Body)
		err := play.Do(s.store, given)
		if plain.Told(err) != told {
			x.t.Fatalf("Do(%+v), on side %d: got %v, want %v", o, i, err, told)
		}
		if !bytes.Equal(given.Body, was) {
			x.t.Fatalf("Do(%+v), on side %d, wrote into what it was given", o, i)
		}
		for k := range given.Body {
			given.Body[k] ^= 85
		}
	}
	x.want("Do")
}

// done asks for an op without an error, and that the Heap has this image then; the device has what it had.
func (x *bench) done(o api.Op, now []byte) {
	x.t.Helper()
	x.now = now
	x.do(o, api.OK)
}

// refuse asks for an op's error, twice, and that nothing is another one behind it.
func (x *bench) refuse(o api.Op, told api.Errno) {
	x.t.Helper()
	x.do(o, told)
	x.do(o, told)
}

// commit asks that all is kept then.
func (x *bench) commit() {
	x.t.Helper()
	if len(differing(x.kept, x.now)) > 0 {
		x.stamp++
	}
	x.kept = x.now
	x.do(commit, api.OK)
}

func (x *bench) abort() {
	x.t.Helper()
	x.done(abort, x.kept)
}

// want asks for all that a Store tells, and what is on its device.
func (x *bench) want(what string) {
	x.t.Helper()
	for i, s := range x.sides {
		if s.store.Heap() != s.heap {
			x.t.Fatalf("behind %s, on side %d: Heap is another one", what, i)
		}
		if got := s.heap.Bytes(); !bytes.Equal(got, x.now) {
			x.t.Fatalf("behind %s, on side %d: the Heap has another image, in pages %v", what, i, differing(x.now, got))
		}
		if got, want := s.store.Dirty(), differing(x.kept, x.now); !slices.Equal(got, want) {
			x.t.Fatalf("behind %s, on side %d: Dirty: got %v, want %v", what, i, got, want)
		}
		if got := s.store.Stamp(); got != x.stamp {
			x.t.Fatalf("behind %s, on side %d: Stamp: got %d, want %d", what, i, got, x.stamp)
		}
		x.wantOnDevice(what, s.device)
	}
}

// wantOnDevice asks that what was kept is there, were it opened now; of one that is down that can't be asked.
func (x *bench) wantOnDevice(what string, d *device.Device) {
	x.t.Helper()
	if d.Down() {
		return
	}
	if got := d.Pending(); len(got) != 0 {
		x.t.Fatalf("behind %s: pending are %v", what, got)
	}
	s, err := store.Open(twin(x.t, d))
	if err != nil {
		x.t.Fatalf("behind %s: Open: %v", what, err)
	}
	if got := s.Heap().Bytes(); !bytes.Equal(got, x.kept) || s.Stamp() != x.stamp {
		x.t.Fatalf("behind %s: another image is on the device, in pages %v, of stamp %d", what, differing(x.kept, got), s.Stamp())
	}
}

// pull makes the power of all devices go, with nothing written.
func (x *bench) pull() {
	for _, s := range x.sides {
		s.device.Fail(0)
		s.device.Flush()
	}
}

// crash brings the power back, with nothing kept of what is pending.
func (x *bench) crash() {
	for _, s := range x.sides {
		s.device.Crash(nil, -1, 0)
	}
}

// some gives Stores of 12 pages with the objects 1 (tag 3, 32 bytes, at 288) and 3 (tag 15, 12 bytes, at 340), and one free run of 20 bytes between them, and one of 32 behind; main leads to 1, eightlet to 3. All of it is kept.
func some(t *testing.T) *bench {
	t.Helper()
	x := created(t, 60)
	x.done(alloc(32, 3), object(x.now, 1, 4, 288, 32))
	x.done(alloc(20, 0), object(x.now, 2, 1, 320, 20))
	x.done(alloc(12, 15), object(x.now, 3, 16, 340, 12))
	x.done(write(1, 0, counted(2, 32)), replaced(x.now, 288, counted(2, 32)...)) // from 63 on: it names nobody
	x.done(write(2, 0, counted(5, 20)), replaced(x.now, 320, counted(5, 20)...))
	x.done(write(3, 0, counted(6, 12)), replaced(x.now, 340, counted(6, 12)...))
	x.done(set("main", 1), rooted(x.now, 0, "main", 1))
	x.done(set("eightlet", 3), rooted(x.now, 1, "eightlet", 3))
	x.done(free(2), object(x.now, 2, 0, 0, 0))
	x.commit()
	return x
}

// wide gives Stores of 64 pages with the object 1, which has the 31 pages from 9 on, and some bytes of the next one. It is kept.
func wide(t *testing.T) *bench {
	t.Helper()
	x := created(t, 112)
	x.done(alloc(1000, 0), object(x.now, 1, 1, 288, 1000))
	x.commit()
	return x
}
