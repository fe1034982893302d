package heap_test

import (
	"bytes"
	"math/rand"
	"testing"

	"vaultkeel/api"
	"vaultkeel/check"
	"vaultkeel/plain"
)

// thing is an object of the model.
type thing struct {
	at, tag int
	body    []byte
}

// model has by plain lists what a Heap must have: objects by handle, and what was left in bytes that nobody has.
type model struct {
	image  []byte
	things [41]*thing
	rooted [41]bool
}

func modelOf(b []byte) *model {
	m := &model{image: bytes.Clone(b)}
	for handle := 1; handle <= 40; handle++ {
		row := b[5*(handle-1):]
		if row[0] != 0 {
			at, n := int(row[1])+256*int(row[2]), int(row[3])+256*int(row[4])
			m.things[handle] = &thing{at: at, tag: int(row[0]) - 1, body: bytes.Clone(b[at : at+n])}
		}
	}
	for i := range 8 {
		m.rooted[b[210+11*i]] = true
	}
	return m
}

// bytes gives the image: its roots as they were, and all objects.
func (m *model) bytes() []byte {
	b := bytes.Clone(m.image)
	clear(b[:200])
	for handle, o := range m.things {
		if o != nil {
			b = object(b, handle, o.tag+1, o.at, len(o.body))
			copy(b[o.at:], o.body)
		}
	}
	return b
}

// fit asks each byte whether it is free.
func (m *model) fit(n int) int {
	taken := make([]bool, len(m.image)+1)
	taken[len(m.image)] = true
	for _, o := range m.things {
		if o != nil {
			for i := range o.body {
				taken[o.at+i] = true
			}
		}
	}
	best, length, from := -1, 0, 288
	for i := 288; i < len(taken); i++ {
		if !taken[i] {
			continue
		}
		if run := i - from; run >= n && (best < 0 || run < length) {
			best, length = from, run
		}
		from = i + 1
	}
	return best
}

func (m *model) alloc(n, tag int) (int, api.Errno) {
	if n < 1 || n > 1000 || tag < 0 || tag > 15 {
		return 0, api.ErrRange
	}
	for handle := 1; handle <= 40; handle++ {
		if m.things[handle] != nil {
			continue
		}
		at := m.fit(n)
		if at < 0 {
			return 0, api.ErrFull
		}
		m.things[handle] = &thing{at: at, tag: tag, body: make([]byte, n)}
		return handle, api.OK
	}
	return 0, api.ErrFull
}

// of tells why there is no object of a handle.
func (m *model) of(handle int) (*thing, api.Errno) {
	if handle < 1 || handle > 40 {
		return &thing{}, api.ErrRange
	}
	if m.things[handle] == nil {
		return &thing{}, api.ErrNone
	}
	return m.things[handle], api.OK
}

func (m *model) free(handle int) api.Errno {
	o, e := m.of(handle)
	if e != api.OK {
		return e
	}
	if m.rooted[handle] {
		return api.ErrClash
	}
	copy(m.image[o.at:], o.body)
	m.things[handle] = nil
	return api.OK
}

func (m *model) piece(handle, at, n int) ([]byte, api.Errno) {
	o, e := m.of(handle)
	if e != api.OK {
		return nil, e
	}
	if at < 0 || n < 0 || at+n > len(o.body) {
		return nil, api.ErrShape
	}
	return o.body[at : at+n], api.OK
}

// pair is a Heap and its model.
type pair struct {
	bench
	model *model
	r     *rand.Rand
	told  map[api.Errno]int // how often which error was told
}

// step does one call, drawn, on both.
func (p *pair) step(sizes int) {
	p.t.Helper()
	handle := p.r.Intn(42)
	switch p.r.Intn(8) {
	case 0, 1, 2:
		n, tag := p.r.Intn(sizes), p.r.Intn(17)
		want, e := p.model.alloc(n, tag)
		got, err := p.heap.Alloc(n, tag)
		if got != want || plain.Told(err) != e {
			p.t.Fatalf("Alloc(%d, %d): got %d, %v; want %d, %v", n, tag, got, err, want, e)
		}
		p.told[e]++
	case 3:
		e := p.model.free(handle)
		if err := p.heap.Free(handle); plain.Told(err) != e {
			p.t.Fatalf("Free(%d): got %v; want %v", handle, err, e)
		}
		p.told[e]++
	case 4, 5:
		p.stepWrite(handle, p.r.Intn(sizes)-1, counted(p.r.Intn(255), p.r.Intn(sizes)))
	default:
		p.stepRead(handle, p.r.Intn(sizes)-1, p.r.Intn(sizes)-1)
	}
	p.now = p.model.bytes()
	p.want("a drawn call")
}

func (p *pair) stepWrite(handle, at int, b []byte) {
	p.t.Helper()
	place, e := p.model.piece(handle, at, len(b))
	copy(place, b)
	if err := p.tryWrite(handle, at, b); plain.Told(err) != e {
		p.t.Fatalf("Write(%d, %d) of %d bytes: got %v; want %v", handle, at, len(b), err, e)
	}
	p.told[e]++
}

func (p *pair) stepRead(handle, at, n int) {
	p.t.Helper()
	want, e := p.model.piece(handle, at, n)
	if got, err := p.heap.Read(handle, at, n); !bytes.Equal(got, want) || plain.Told(err) != e {
		p.t.Fatalf("Read(%d, %d, %d): got %v, %v; want %v, %v", handle, at, n, got, err, want, e)
	}
	o, e := p.model.of(handle)
	if got, err := p.heap.Tag(handle); got != o.tag || plain.Told(err) != e {
		p.t.Fatalf("Tag(%d): got %d, %v; want %d, %v", handle, got, err, o.tag, e)
	}
	if got, err := p.heap.Size(handle); got != len(o.body) || plain.Told(err) != e {
		p.t.Fatalf("Size(%d): got %d, %v; want %d, %v", handle, got, err, len(o.body), e)
	}
}

// Drawn calls, one behind the other: each answers as the model does, the image is the model's behind each, and has never a fault.
func TestDrawnCalls(t *testing.T) {
	r := rand.New(rand.NewSource(10))
	told := map[api.Errno]int{}
	for _, start := range [][]byte{make([]byte, 288), make([]byte, 300), laid(400), some(), laid(1500), laid(6400), full()} {
		for _, sizes := range []int{4, 20, 60, 1003} {
			p := &pair{bench: bench{t: t, heap: load(t, start)}, model: modelOf(start), r: r, told: told}
			for range 250 {
				p.step(sizes)
				if faults, err := check.Check(p.now); len(faults) != 0 || err != nil {
					t.Fatalf("the image has the faults %v, %v", faults, err)
				}
			}
			again := load(t, p.now)
			if !bytes.Equal(again.Bytes(), p.now) {
				t.Fatal("loaded again it is another one")
			}
		}
	}
	for _, e := range []api.Errno{api.OK, api.ErrRange, api.ErrNone, api.ErrShape, api.ErrFull, api.ErrClash} {
		if told[e] < 20 {
			t.Errorf("%v was told %d times: the drawn calls do not ask enough", e, told[e])
		}
	}
}
