package image_test

import (
	"bytes"
	"fmt"
	"math"
	"slices"
	"testing"

	"vaultkeel/api"
	"vaultkeel/image"
	"vaultkeel/plain"
)

// lengths that images have.
var lengths = []int{288, 289, 320, 1287, 1288, 6399, 6400}

// handles that are none: the numbers next to those that are, such as come to one in a byte or in 32 bits, and the extremes.
var noHandles = []int{0, 41, 42, -1, -40, 255, 256, 257, -255, 1 << 32, 1<<32 + 1, math.MaxInt, math.MaxInt - 1, math.MinInt, math.MinInt + 1}

// laid gives an image of n bytes, all of which are some number above 0, so that each handle and each root is one.
func laid(n int) []byte {
	b := make([]byte, n)
	for i := range b {
		b[i] = byte(1 + i*37%255)
	}
	return b
}

// backgrounds gives images of n bytes: all 0, all 255, and such as have all kinds of bytes.
func backgrounds(n int) [][]byte {
	mixed := laid(n)
	for i := range mixed {
		mixed[i] *= byte(i % 3)
	}
	return [][]byte{make([]byte, n), bytes.Repeat([]byte{255}, n), laid(n), mixed}
}

// replaced gives a copy of b with other bytes from at on.
func replaced(b []byte, at int, row ...byte) []byte {
	return slices.Concat(b[:at], row, b[at+len(row):])
}

// entry as a test writes it down.
func entry(handle, tag, at, length int) api.Entry {
	return api.Entry{Handle: handle, Tag: tag, Extent: api.Extent{At: at, Len: length}}
}

// around gives b as a part of a greater list, so that what is read or written about it is told.
func around(b []byte) (part, whole []byte) {
	odd := bytes.Repeat([]byte{201}, 7000)
	whole = slices.Concat(odd, b, odd)
	return whole[len(odd) : len(odd)+len(b)], whole
}

// unchanged calls f on bytes, and asks that it writes neither into them nor about them.
func unchanged(t *testing.T, what string, b []byte, f func(b []byte)) {
	t.Helper()
	part, whole := around(b)
	before := slices.Clone(whole)
	f(part)
	if !bytes.Equal(whole, before) {
		t.Errorf("%s wrote into what it was given", what)
	}
}

// wantBytes asks for bytes without an error, or for an error and nothing beside it; and that they are fresh.
func wantBytes(t *testing.T, what string, b []byte, f func(b []byte) ([]byte, error), want []byte, told api.Errno) {
	t.Helper()
	part, whole := around(b)
	before := slices.Clone(whole)
	out, err := f(part)
	if plain.Told(err) != told || !bytes.Equal(out, want) {
		t.Errorf("%s, of %d bytes: got %d bytes, other from %d on, %v; want %d, %v", what, len(b), len(out), other(out, want), err, len(want), told)
	}
	if !bytes.Equal(whole, before) {
		t.Errorf("%s wrote into what it was given", what)
	}
	again, _ := f(part)
	fill(out[:cap(out)], 99)
	if !bytes.Equal(whole, before) {
		t.Errorf("%s: what it gave is a part of what it was given", what)
	}
	fill(whole, 98)
	if !bytes.Equal(again, want) {
		t.Errorf("%s: what it gave changed with what it was given, or with what it gave ahead", what)
	}
}

// other tells where two lists of bytes are first not the same.
func other(a, b []byte) int {
	i := 0
	for i < min(len(a), len(b)) && a[i] == b[i] {
		i++
	}
	return i
}

func fill(b []byte, c byte) {
	for i := range b {
		b[i] = c
	}
}

func wantPut(t *testing.T, b []byte, e api.Entry, want []byte, told api.Errno) {
	t.Helper()
	wantBytes(t, fmt.Sprint("Put of ", e), b, func(b []byte) ([]byte, error) { return image.Put(b, e) }, want, told)
}

func wantDrop(t *testing.T, b []byte, handle int, want []byte, told api.Errno) {
	t.Helper()
	wantBytes(t, fmt.Sprint("Drop of ", handle), b, func(b []byte) ([]byte, error) { return image.Drop(b, handle) }, want, told)
}

func wantPutRoot(t *testing.T, b []byte, i int, r api.Root, want []byte, told api.Errno) {
	t.Helper()
	wantBytes(t, fmt.Sprintf("PutRoot of %d %q %d", i, r.Name, r.Handle), b, func(b []byte) ([]byte, error) { return image.PutRoot(b, i, r) }, want, told)
}

func wantGet(t *testing.T, b []byte, handle int, want api.Entry, told api.Errno) {
	t.Helper()
	unchanged(t, "Get", b, func(b []byte) {
		if got, err := image.Get(b, handle); plain.Told(err) != told || got != want {
			t.Errorf("Get of %d: got %v, %v; want %v, %v", handle, got, err, want, told)
		}
	})
}

func wantEntries(t *testing.T, b []byte, told api.Errno, want ...api.Entry) {
	t.Helper()
	unchanged(t, "Entries", b, func(b []byte) {
		if got, err := image.Entries(b); plain.Told(err) != told || !slices.Equal(got, want) {
			t.Errorf("Entries: got %v, %v; want %v, %v", got, err, want, told)
		}
	})
}

func wantRoots(t *testing.T, b []byte, told api.Errno, want ...api.Root) {
	t.Helper()
	unchanged(t, "Roots", b, func(b []byte) {
		if got, err := image.Roots(b); plain.Told(err) != told || !slices.Equal(got, want) {
			t.Errorf("Roots: got %v, %v; want %v, %v", got, err, want, told)
		}
	})
}
