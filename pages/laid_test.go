package pages_test

import (
	"bytes"
	"slices"
	"testing"

	"vaultkeel/api"
	"vaultkeel/device"
	"vaultkeel/pages"
	"vaultkeel/plain"
)

// body of 32 bytes, none of them 0, other ones for each c; of two below 255 no byte is the same.
func body(c int) []byte {
	b := make([]byte, 32)
	for i := range b {
		b[i] = byte(1 + (c+i*(8+c/255))%255)
	}
	return b
}

var zeros = make([]byte, 32)

// marked writes a mark out: a stamp's four bytes, then what is between, zeros up to 28, and the stamp again.
func marked(n int, between ...byte) []byte {
	side := []byte{byte(n), byte(n >> 8), byte(n >> 16), byte(n >> 24)}
	return slices.Concat(side, between, make([]byte, 24-len(between)), side)
}

func made(t *testing.T, n int) *device.Device {
	t.Helper()
	d, err := device.New(n)
	if err != nil {
		t.Fatalf("New(%d): %v", n, err)
	}
	return d
}

func formatted(t *testing.T, n int) (*device.Device, *pages.Pages) {
	t.Helper()
	d := made(t, n)
	return d, format(t, d)
}

func format(t *testing.T, d *device.Device) *pages.Pages {
	t.Helper()
	p, err := pages.Format(d)
	if err != nil || p == nil {
		t.Fatalf("Format: got %v, %v", p, err)
	}
	return p
}

func opened(t *testing.T, d *device.Device) *pages.Pages {
	t.Helper()
	p, err := pages.Open(d)
	if err != nil || p == nil {
		t.Fatalf("Open: got %v, %v", p, err)
	}
	return p
}

// lay writes sectors by hand, and flushes them.
func lay(t *testing.T, d *device.Device, l map[int][]byte) {
	t.Helper()
	for i, b := range l {
		if err := d.Write(i, b); err != nil {
			t.Fatalf("Write(%d): %v", i, err)
		}
	}
	if err := d.Flush(); err != nil {
		t.Fatalf("Flush: %v", err)
	}
}

// pull makes the power of a device go, with nothing written.
func pull(d *device.Device) {
	d.Fail(0)
	d.Flush()
}

func wantTold(t *testing.T, what string, err error, told api.Errno) {
	t.Helper()
	if plain.Told(err) != told {
		t.Errorf("%s: got %v, want %v", what, err, told)
	}
}

// wantNoPages asks for an error and nothing beside it.
func wantNoPages(t *testing.T, what string, p *pages.Pages, err error, told api.Errno) {
	t.Helper()
	wantTold(t, what, err, told)
	if p != nil {
		t.Errorf("%s: got pages beside the error", what)
	}
}

func wantStamp(t *testing.T, p *pages.Pages, want int) {
	t.Helper()
	if got := p.Stamp(); got != want {
		t.Errorf("Stamp: got %d, want %d", got, want)
	}
}

// wantRead asks for bytes without an error, or for an error and nothing beside it.
func wantRead(t *testing.T, p *pages.Pages, i int, want []byte, told api.Errno) {
	t.Helper()
	got, err := p.Read(i)
	if plain.Told(err) != told || !bytes.Equal(got, want) {
		t.Errorf("Read(%d): got %v, %v; want %v, %v", i, got, err, want, told)
	}
}

// wantCommit also asks that what is handed in is not written into.
func wantCommit(t *testing.T, p *pages.Pages, l []api.Page, told api.Errno) {
	t.Helper()
	before := copied(l)
	wantTold(t, "Commit", p.Commit(l), told)
	if !slices.EqualFunc(l, before, samePage) {
		t.Errorf("Commit wrote into what it was given: %v, was %v", l, before)
	}
}

func copied(l []api.Page) []api.Page {
	out := slices.Clone(l)
	for k := range out {
		out[k].Body = bytes.Clone(out[k].Body)
	}
	return out
}

func samePage(a, b api.Page) bool { return a.Number == b.Number && bytes.Equal(a.Body, b.Body) }

// sheets gives pages of these numbers, with bodies from c on.
func sheets(c int, numbers ...int) (l []api.Page) {
	for k, n := range numbers {
		l = append(l, api.Page{Number: n, Body: body(c + k)})
	}
	return l
}

// rising gives n numbers from 0 on.
func rising(n int) (l []int) {
	for i := range n {
		l = append(l, i)
	}
	return l
}

func sectors(t *testing.T, d *device.Device) (l [][]byte) {
	t.Helper()
	for i := range d.Len() {
		b, err := d.Read(i)
		if err != nil {
			t.Fatalf("Read(%d) of the device: %v", i, err)
		}
		l = append(l, b)
	}
	return l
}

// contents of all pages.
func contents(t *testing.T, p *pages.Pages) (l [][]byte) {
	t.Helper()
	for i := range p.Len() {
		b, err := p.Read(i)
		if err != nil {
			t.Fatalf("Read(%d): %v", i, err)
		}
		l = append(l, b)
	}
	return l
}

func same(a, b [][]byte) bool { return slices.EqualFunc(a, b, bytes.Equal) }

// wantSectors asks that all sectors but those that are told are as they were.
func wantSectors(t *testing.T, d *device.Device, was [][]byte, now map[int][]byte) {
	t.Helper()
	for i, got := range sectors(t, d) {
		want, isTold := now[i]
		if !isTold {
			want = was[i]
		}
		if !bytes.Equal(got, want) {
			t.Errorf("sector %d: got %v, want %v", i, got, want)
		}
	}
}

func wantPending(t *testing.T, d *device.Device, want ...int) {
	t.Helper()
	if got := d.Pending(); !slices.Equal(got, want) {
		t.Errorf("Pending: got %v, want %v", got, want)
	}
}
