package store_test

import (
	"bytes"
	"slices"
	"testing"

	"vaultkeel/api"
	"vaultkeel/device"
	"vaultkeel/heap"
	"vaultkeel/plain"
	"vaultkeel/root"
	"vaultkeel/store"
)

var zeros = make([]byte, 32)

// marked writes a mark out: a stamp's four bytes, then what is between, zeros up to 28, and the stamp again.
func marked(n int, between ...byte) []byte {
	side := []byte{byte(n), byte(n >> 8), byte(n >> 16), byte(n >> 24)}
	return slices.Concat(side, between, make([]byte, 24-len(between)), side)
}

// object gives a copy of b in which the five bytes of a handle are these.
func object(b []byte, handle, first, at, length int) []byte {
	return replaced(b, 5*(handle-1), byte(first), byte(at%256), byte(at/256), byte(length%256), byte(length/256))
}

// rooted gives a copy of b in which a root is at a place.
func rooted(b []byte, i int, name string, handle int) []byte {
	row := make([]byte, 11)
	copy(row, name)
	row[10] = byte(handle)
	return replaced(b, 200+11*i, row...)
}

// replaced gives a copy of b with other bytes from at on.
func replaced(b []byte, at int, row ...byte) []byte {
	return slices.Concat(b[:at], row, b[at+len(row):])
}

// counted gives n bytes that rise, none of them 0; of two lists with other c below 255 no byte is the same at any place.
func counted(c, n int) []byte {
	b := make([]byte, n)
	for i := range b {
		b[i] = byte(1 + (31*c+i)%255)
	}
	return b
}

func made(t *testing.T, n int) *device.Device {
	t.Helper()
	d, err := device.New(n)
	if err != nil {
		t.Fatalf("New(%d) of a device: %v", n, err)
	}
	return d
}

// lay writes sectors by hand, and flushes them.
func lay(t *testing.T, d *device.Device, l map[int][]byte) {
	t.Helper()
	for i, b := range l {
		if err := d.Write(i, b); err != nil {
			t.Fatalf("Write(%d) of the device: %v", i, err)
		}
	}
	if err := d.Flush(); err != nil {
		t.Fatalf("Flush of the device: %v", err)
	}
}

// filled gives a device of n sectors, with other bytes than 0 in all of them.
func filled(t *testing.T, n int) *device.Device {
	t.Helper()
	d := made(t, n)
	l := map[int][]byte{}
	for i := range n {
		l[i] = counted(i, 32)
	}
	lay(t, d, l)
	return d
}

// holding gives a device whose pages have the bytes of b, and nothing that is to be brought to them.
func holding(t *testing.T, b []byte) *device.Device {
	t.Helper()
	d := made(t, 48+len(b)/32)
	l := map[int][]byte{0: marked(2)}
	for i := range len(b) / 32 {
		l[48+i] = b[32*i : 32*i+32]
	}
	lay(t, d, l)
	return d
}

// pull makes the power of a device go, with nothing written.
func pull(d *device.Device) {
	d.Fail(0)
	d.Flush()
}

func sectors(t *testing.T, d *device.Device) (l [][]byte) {
	t.Helper()
	for i := range d.Len() {
		b, err := d.Read(i)
		if err != nil {
			t.Fatalf("Read(%d) of the device: %v", i, err)
		}
		l = append(l, b)
	}
	return l
}

// twin gives another device with the same sectors, so that it may be opened, and the one that it was made of is as it was.
func twin(t *testing.T, d *device.Device) *device.Device {
	t.Helper()
	out := made(t, d.Len())
	l := map[int][]byte{}
	for i, b := range sectors(t, d) {
		l[i] = b
	}
	lay(t, out, l)
	return out
}

func same(a, b [][]byte) bool { return slices.EqualFunc(a, b, bytes.Equal) }

// differing gives the pages in which two images differ, byte by byte.
func differing(a, b []byte) (l []int) {
	for i := range a {
		if a[i] != b[i] && (len(l) == 0 || l[len(l)-1] != i/32) {
			l = append(l, i/32)
		}
	}
	return l
}

func wantTold(t *testing.T, what string, err error, told api.Errno) {
	t.Helper()
	if plain.Told(err) != told {
		t.Errorf("%s: got %v, want %v", what, err, told)
	}
}

// wantNoStore asks for an error and nothing beside it.
func wantNoStore(t *testing.T, what string, s *store.Store, err error, told api.Errno) {
	t.Helper()
	wantTold(t, what, err, told)
	if s != nil {
		t.Errorf("%s: got a Store beside the error", what)
	}
}

func wantPending(t *testing.T, d *device.Device, want ...int) {
	t.Helper()
	if got := d.Pending(); !slices.Equal(got, want) {
		t.Errorf("Pending: got %v, want %v", got, want)
	}
}

// bench is a Store and what it must have.
type bench struct {
	t         *testing.T
	device    *device.Device
	store     *store.Store
	heap      *heap.Heap
	now, kept []byte // images
	stamp     int
}

// created gives a Store on a new device, with nothing in it.
func created(t *testing.T, n int) *bench {
	t.Helper()
	return createdOn(t, made(t, n))
}

func createdOn(t *testing.T, d *device.Device) *bench {
	t.Helper()
	s, err := store.Create(d)
	if err != nil || s == nil {
		t.Fatalf("Create: got %v, %v", s, err)
	}
	b := make([]byte, 32*min(d.Len()-48, 200))
	return benchOf(t, d, s, b, 2)
}

func openedOn(t *testing.T, d *device.Device, image []byte, stamp int) *bench {
	t.Helper()
	return benchOf(t, d, opened(t, d), image, stamp)
}

func opened(t *testing.T, d *device.Device) *store.Store {
	t.Helper()
	s, err := store.Open(d)
	if err != nil || s == nil {
		t.Fatalf("Open: got %v, %v", s, err)
	}
	return s
}

func benchOf(t *testing.T, d *device.Device, s *store.Store, image []byte, stamp int) *bench {
	t.Helper()
	x := &bench{t: t, device: d, store: s, heap: s.Heap(), now: image, kept: image, stamp: stamp}
	x.want("Create or Open")
	return x
}

// want asks for all that a Store tells; it writes over what was given, and asks again.
func (x *bench) want(what string) {
	x.t.Helper()
	for range 2 {
		if x.store.Heap() != x.heap {
			x.t.Fatalf("behind %s: Heap is another one", what)
		}
		if got := x.heap.Bytes(); !bytes.Equal(got, x.now) {
			x.t.Fatalf("behind %s: the Heap has another image, in pages %v", what, differing(x.now, got))
		}
		if got := x.store.Stamp(); got != x.stamp {
			x.t.Fatalf("behind %s: Stamp: got %d, want %d", what, got, x.stamp)
		}
		got := x.store.Dirty()
		if want := differing(x.kept, x.now); !slices.Equal(got, want) {
			x.t.Fatalf("behind %s: Dirty: got %v, want %v", what, got, want)
		}
		for i := range got[:cap(got)] {
			got[:cap(got)][i] = 99
		}
	}
}

// wantDirty asks that just these pages differ, as they were counted by hand.
func (x *bench) wantDirty(want ...int) {
	x.t.Helper()
	if got := x.store.Dirty(); !slices.Equal(got, want) {
		x.t.Errorf("Dirty: got %v, want %v", got, want)
	}
}

// wantOnDevice asks that what was kept is there, were it opened now.
func (x *bench) wantOnDevice(what string) {
	x.t.Helper()
	openedOn(x.t, twin(x.t, x.device), x.kept, x.stamp)
	if x.t.Failed() {
		x.t.Fatalf("behind %s: what is on the device is another", what)
	}
}

// commit asks for one that says nothing, and that all is kept then.
func (x *bench) commit() {
	x.t.Helper()
	wantTold(x.t, "Commit", x.store.Commit(), api.OK)
	if !bytes.Equal(x.now, x.kept) {
		x.stamp++
	}
	x.kept = x.now
	x.want("Commit")
	wantPending(x.t, x.device)
	x.wantOnDevice("Commit")
}

// fail asks for a Commit with an error, twice, as nothing that is told is another one behind it.
func (x *bench) fail(told api.Errno) {
	x.t.Helper()
	wantTold(x.t, "Commit", x.store.Commit(), told)
	x.want("Commit with an error")
	wantTold(x.t, "Commit once more", x.store.Commit(), told)
	x.want("Commit with an error, once more")
}

func (x *bench) abort() {
	x.t.Helper()
	x.store.Abort()
	x.now = x.kept
	x.want("Abort")
}

// alloc asks for an object, and that it has just this handle and stands just there, all 0.
func (x *bench) alloc(n, tag, handle, at int) {
	x.t.Helper()
	got, err := x.store.Heap().Alloc(n, tag)
	if got != handle || err != nil {
		x.t.Fatalf("Alloc(%d, %d): got %d, %v; want %d", n, tag, got, err, handle)
	}
	x.now = object(replaced(x.now, at, make([]byte, n)...), handle, tag+1, at, n)
	x.want("Alloc")
}

func (x *bench) free(handle int) {
	x.t.Helper()
	wantTold(x.t, "Free", x.store.Heap().Free(handle), api.OK)
	x.now = object(x.now, handle, 0, 0, 0)
	x.want("Free")
}

// write asks that bytes are written into an object which stands from place on; and writes over what it has handed in.
func (x *bench) write(handle, place, at int, b []byte) {
	x.t.Helper()
	given := slices.Clone(b)
	wantTold(x.t, "Write", x.store.Heap().Write(handle, at, given), api.OK)
	if !bytes.Equal(given, b) {
		x.t.Errorf("Write wrote into what it was given")
	}
	clear(given)
	x.now = replaced(x.now, place+at, b...)
	x.want("Write")
}

// set asks that a new root stands at a place.
func (x *bench) set(i int, name string, handle int) {
	x.t.Helper()
	isNew, err := root.Set(x.store.Heap(), name, handle)
	if !isNew || err != nil {
		x.t.Fatalf("Set(%s, %d): got %v, %v", name, handle, isNew, err)
	}
	x.now = rooted(x.now, i, name, handle)
	x.want("Set")
}

// some lays three objects and two roots, with bytes left of one that was freed, and commits them: the pages 0, 6, 9 and 10.
func (x *bench) some() {
	x.t.Helper()
	x.alloc(32, 3, 1, 288)
	x.alloc(20, 0, 2, 320)
	x.alloc(12, 15, 3, 340)
	x.write(1, 288, 0, counted(1, 32))
	x.write(2, 320, 0, counted(2, 20))
	x.write(3, 340, 0, counted(3, 12))
	x.free(2)
	x.set(0, "main", 1)
	x.set(1, "eightlet", 3)
	x.commit()
}
