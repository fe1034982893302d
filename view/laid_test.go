package view_test

import (
	"bytes"
	"slices"
	"testing"

	"vaultkeel/api"
	"vaultkeel/device"
	"vaultkeel/pages"
	"vaultkeel/plain"
	"vaultkeel/view"
)

// filling gives n bytes, none of them 0, other ones in each page and for each c below 8.
func filling(c, n int) []byte {
	b := make([]byte, n)
	for i := range b {
		b[i] = byte(1 + (31*c+3*i+i/32)%255)
	}
	return b
}

// laid gives a device of n pages, each with other bytes.
func laid(t *testing.T, n int) (*device.Device, *pages.Pages) {
	t.Helper()
	d, err := device.New(48 + n)
	if err != nil {
		t.Fatalf("New of a device: %v", err)
	}
	p, err := pages.Format(d)
	if err != nil {
		t.Fatalf("Format: %v", err)
	}
	change(t, d, filling(0, 32*n))
	return d, p
}

// change writes the bytes of all pages by hand, past Pages and View.
func change(t *testing.T, d *device.Device, b []byte) {
	t.Helper()
	for i := 0; 32*i < len(b); i++ {
		if err := d.Write(48+i, b[32*i:32*i+32]); err != nil {
			t.Fatalf("Write to the device: %v", err)
		}
	}
	if err := d.Flush(); err != nil {
		t.Fatalf("Flush: %v", err)
	}
}

func viewOf(t *testing.T, p *pages.Pages) *view.View {
	t.Helper()
	v, err := view.New(p)
	if err != nil || v == nil {
		t.Fatalf("New: got %v, %v", v, err)
	}
	return v
}

func reopened(t *testing.T, d *device.Device) (*pages.Pages, *view.View) {
	t.Helper()
	p, err := pages.Open(d)
	if err != nil {
		t.Fatalf("Open: %v", err)
	}
	return p, viewOf(t, p)
}

// pull makes the power of a device go, with nothing written.
func pull(d *device.Device) {
	d.Fail(0)
	d.Flush()
}

// sheet is a View with what is to be told of it.
type sheet struct {
	t         *testing.T
	device    *device.Device
	pages     *pages.Pages
	view      *view.View
	kept, now []byte
	dirty     []int
}

// sheetOf n pages, with nothing dirty.
func sheetOf(t *testing.T, n int) *sheet {
	t.Helper()
	d, p := laid(t, n)
	return &sheet{t, d, p, viewOf(t, p), filling(0, 32*n), filling(0, 32*n), nil}
}

// write asks for an answer of Write, and that what is handed in is not written into; and tells what is to be behind it.
func (s *sheet) write(at int, b []byte, told api.Errno) {
	s.t.Helper()
	handed := slices.Concat(b, []byte("behind"))
	err := s.view.Write(at, handed[:len(b)])
	if plain.Told(err) != told {
		s.t.Errorf("Write(%d) of %d bytes: got %v, want %v", at, len(b), err, told)
	}
	if string(handed) != string(b)+"behind" {
		s.t.Errorf("Write(%d) wrote into what it was given", at)
	}
	clear(handed)
	if told != api.OK {
		return
	}
	for k, c := range b {
		s.now[at+k] = c
		if page := (at + k) / 32; !slices.Contains(s.dirty, page) {
			s.dirty = append(s.dirty, page)
		}
	}
	slices.Sort(s.dirty)
}

func (s *sheet) commit(told api.Errno) {
	s.t.Helper()
	if err := s.view.Commit(); plain.Told(err) != told {
		s.t.Errorf("Commit of %v: got %v, want %v", s.dirty, err, told)
	}
	if told == api.OK {
		s.kept, s.dirty = bytes.Clone(s.now), nil
	}
}

func (s *sheet) abort() {
	s.view.Abort()
	s.now, s.dirty = bytes.Clone(s.kept), nil
}

// want asks that the View is as is told.
func (s *sheet) want(what string) {
	s.t.Helper()
	wantBytes(s.t, what, s.view, s.now)
	if got := s.view.Dirty(); !slices.Equal(got, s.dirty) {
		s.t.Errorf("%s: Dirty: got %v, want %v", what, got, s.dirty)
	}
}

// wantBytes asks for the bytes of a View, all of them.
func wantBytes(t *testing.T, what string, v *view.View, want []byte) {
	t.Helper()
	if v.Len() != len(want) {
		t.Fatalf("%s: Len: got %d, want %d", what, v.Len(), len(want))
	}
	got, err := v.Read(0, len(want))
	if err != nil || !bytes.Equal(got, want) {
		t.Errorf("%s: Read of all: got %v, %v; want %v", what, got, err, want)
	}
}

// wantRead asks for bytes without an error, or for an error and nothing beside it.
func wantRead(t *testing.T, v *view.View, at, n int, want []byte, told api.Errno) {
	t.Helper()
	got, err := v.Read(at, n)
	if plain.Told(err) != told || !bytes.Equal(got, want) {
		t.Errorf("Read(%d, %d): got %v, %v; want %v, %v", at, n, got, err, want, told)
	}
}

func wantStamp(t *testing.T, p *pages.Pages, want int) {
	t.Helper()
	if p.Stamp() != want {
		t.Errorf("Stamp: got %d, want %d", p.Stamp(), want)
	}
}

// sectors of a device, one behind the other.
func sectors(t *testing.T, d *device.Device) (all []byte) {
	t.Helper()
	for i := range d.Len() {
		b, err := d.Read(i)
		if err != nil {
			t.Fatalf("Read(%d) of the device: %v", i, err)
		}
		all = append(all, b...)
	}
	return all
}
