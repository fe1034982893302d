package image_test

import (
	"math"
	"slices"
	"strings"
	"testing"

	"vaultkeel/api"
	"vaultkeel/image"
)

// rootBytes gives the eleven bytes of a root.
func rootBytes(name string, handle int) []byte {
	row := make([]byte, 11)
	copy(row, name)
	row[10] = byte(handle)
	return row
}

func TestNoRoots(t *testing.T) {
	for _, n := range lengths {
		b := laid(n)
		clear(b[200:288])
		wantRoots(t, b, api.OK)
	}
}

func TestAllRoots(t *testing.T) {
	names := []string{"h", "gg", "fff", "eeee", "ddddd", "cccccc", "bbbbbbb", "eightlet"}
	for _, n := range lengths {
		b := laid(n)
		var want []api.Root
		for i, name := range names {
			copy(b[200+11*i:], rootBytes(name, 40-i))
			want = append(want, api.Root{Name: name, Handle: 40 - i})
		}
		wantRoots(t, b, api.OK, want...)
	}
}

func TestSomeRoots(t *testing.T) {
	b := make([]byte, 288)
	copy(b[200+11*1:], rootBytes("z", 9))
	copy(b[200+11*4:], rootBytes("main", 40))
	copy(b[200+11*7:], rootBytes("a", 1))
	wantRoots(t, b, api.OK, api.Root{Name: "z", Handle: 9}, api.Root{Name: "main", Handle: 40}, api.Root{Name: "a", Handle: 1})
	for i := range 8 {
		wantRoots(t, replaced(make([]byte, 288), 200+11*i, rootBytes("main", 5)...), api.OK, api.Root{Name: "main", Handle: 5})
	}
}

// Roots may be the same, and may lead to what is none.
func TestRootsAsTheyStand(t *testing.T) {
	b := make([]byte, 288)
	copy(b[200:], rootBytes("a", 0))
	copy(b[211:], rootBytes("a", 0))
	copy(b[222:], rootBytes("b", 41))
	copy(b[233:], rootBytes("c", 255))
	wantRoots(t, b, api.OK, api.Root{Name: "a"}, api.Root{Name: "a"}, api.Root{Name: "b", Handle: 41}, api.Root{Name: "c", Handle: 255})
}

func TestRootsWhoseNameIsNone(t *testing.T) {
	for _, name := range []string{"", "Main", "a b", "\x00a", "a\x00b", "a1", "é", "eightleT", "a\x00\x00\x00\x00\x00\x00b", "\xff\xff\xff\xff\xff\xff\xff\xff", "`", "{"} {
		for i := range 8 {
			for _, handle := range []int{1, 40, 41, 255} {
				wantRoots(t, replaced(make([]byte, 288), 200+11*i, rootBytes(name, handle)...), api.OK, api.Root{Handle: handle})
			}
		}
	}
}

// A root is one if a single byte of the eleven is not 0, be it the first of a name, between, or the handle.
func TestRootsOfASingleByte(t *testing.T) {
	for i := range 8 {
		for k := range 11 {
			for _, c := range []byte{1, 'a', 'z', 128, 255} {
				want := api.Root{}
				if k == 0 && 'a' <= c && c <= 'z' {
					want.Name = string(rune(c))
				}
				if k == 10 {
					want.Handle = int(c)
				}
				wantRoots(t, replaced(make([]byte, 288), 200+11*i+k, c), api.OK, want)
			}
		}
	}
}

// The two bytes between are neither of the name nor of the handle.
func TestRootsWithBytesBetween(t *testing.T) {
	for _, name := range []string{"a", "eightlet"} {
		row := rootBytes(name, 7)
		row[8], row[9] = 'x', 'y'
		wantRoots(t, replaced(make([]byte, 288), 200, row...), api.OK, api.Root{Name: name, Handle: 7})
	}
}

// wantRootIn asks that a root is put: its eleven bytes, no other one; and that it is told then.
func wantRootIn(t *testing.T, b []byte, i int, r api.Root) {
	t.Helper()
	wantPutRoot(t, b, i, r, replaced(b, 200+11*i, rootBytes(r.Name, r.Handle)...), api.OK)
	alone := make([]byte, len(b))
	out, err := image.PutRoot(alone, i, r)
	if err != nil {
		t.Fatalf("PutRoot of %v: %v", r, err)
	}
	wantRoots(t, out, api.OK, r)
	wantPutRoot(t, out, i, api.Root{}, alone, api.OK)
}

func TestPutRoot(t *testing.T) {
	b := make([]byte, 320)
	want := make([]byte, 320)
	copy(want[233:], []byte{'m', 'a', 'i', 'n', 0, 0, 0, 0, 0, 0, 5})
	wantPutRoot(t, b, 3, api.Root{Name: "main", Handle: 5}, want, api.OK)
	copy(want[277:], []byte{'e', 'i', 'g', 'h', 't', 'l', 'e', 't', 0, 0, 40})
	b, _ = image.PutRoot(b, 3, api.Root{Name: "main", Handle: 5})
	wantPutRoot(t, b, 7, api.Root{Name: "eightlet", Handle: 40}, want, api.OK)
}

func TestPutRootAtEachPlace(t *testing.T) {
	for _, n := range lengths {
		for _, b := range backgrounds(n) {
			for i := range 8 {
				wantRootIn(t, b, i, api.Root{Name: "a", Handle: 1})
				wantRootIn(t, b, i, api.Root{Name: "eightlet", Handle: 40})
			}
		}
	}
}

func TestPutRootOfEachHandleAndLength(t *testing.T) {
	for _, b := range backgrounds(288) {
		for handle := 1; handle <= 40; handle++ {
			for k := 1; k <= 8; k++ {
				wantRootIn(t, b, 2, api.Root{Name: strings.Repeat("z", k), Handle: handle})
			}
		}
	}
}

// PutRoot looks at nothing but the length: neither at objects nor at other roots.
func TestPutRootWhateverStandsThere(t *testing.T) {
	b := make([]byte, 288)
	var want []api.Root
	for i := range 8 {
		b, _ = image.PutRoot(b, 7-i, api.Root{Name: "same", Handle: 40})
		want = append(want, api.Root{Name: "same", Handle: 40})
		wantRoots(t, b, api.OK, want...)
	}
	b, _ = image.PutRoot(b, 0, api.Root{Name: "x", Handle: 1})
	want[0] = api.Root{Name: "x", Handle: 1}
	wantRoots(t, b, api.OK, want...)
}

func TestPutNoRoot(t *testing.T) {
	for _, n := range lengths {
		for _, b := range backgrounds(n) {
			for i := range 8 {
				wantPutRoot(t, b, i, api.Root{}, replaced(b, 200+11*i, make([]byte, 11)...), api.OK)
			}
		}
	}
	b := make([]byte, 288)
	for i := range 8 {
		copy(b[200+11*i:], rootBytes("abcdefgh"[i:i+1], i+1))
	}
	all, _ := image.Roots(b)
	for i := range 8 {
		out, _ := image.PutRoot(b, i, api.Root{})
		wantRoots(t, out, api.OK, slices.Delete(slices.Clone(all), i, i+1)...)
	}
}

// rootsOfAllKinds are right ones and wrong ones.
var rootsOfAllKinds = []api.Root{{Name: "a", Handle: 1}, {Name: "eightlet", Handle: 40}, {}, {Name: "a"}, {Handle: 1}, {Name: "A", Handle: 1}, {Name: "a", Handle: 41}, {Name: "ninelette", Handle: -1}}

func TestPutRootAtPlacesThatAreNone(t *testing.T) {
	for _, n := range []int{288, 299, 6400} {
		for _, i := range []int{-1, 8, 9, -8, -18, 200, 256, 1 << 32, 1<<32 + 1, math.MaxInt, math.MinInt, math.MinInt + 1} {
			for _, r := range rootsOfAllKinds {
				wantPutRoot(t, laid(n), i, r, nil, api.ErrRange)
			}
		}
	}
}

// A handle that is none is told ahead of a name that is none; 0 is one that is none, if there is a name.
func TestPutRootOfHandlesThatAreNone(t *testing.T) {
	for _, b := range backgrounds(288) {
		for _, handle := range noHandles {
			for _, name := range []string{"a", "eightlet", "", "A", "a b", "ninelette", "\x00"} {
				if handle != 0 || name != "" {
					wantPutRoot(t, b, 0, api.Root{Name: name, Handle: handle}, nil, api.ErrRange)
				}
			}
		}
	}
}

func TestPutRootOfNamesThatAreNone(t *testing.T) {
	for _, b := range backgrounds(288) {
		for _, name := range []string{"", "ninelette", "A", "a b", " a", "a ", "a1", "é", "\x00", "a\x00", "`", "{", "\xff", strings.Repeat("a", 11), strings.Repeat("a", 256), strings.Repeat("a", 257)} {
			for _, handle := range []int{1, 2, 40} {
				for i := range 8 {
					wantPutRoot(t, b, i, api.Root{Name: name, Handle: handle}, nil, api.ErrSyntax)
				}
			}
		}
	}
}
