package stamp_test

import (
	"bytes"
	"math"
	"slices"
	"testing"

	"vaultkeel/api"
	"vaultkeel/plain"
	"vaultkeel/stamp"
)

// filled has n bytes, none of them 0, other ones for each c at each place.
func filled(c, n int) []byte {
	b := make([]byte, n)
	for i := range b {
		b[i] = byte(1 + (40*c+i)%255)
	}
	return b
}

// written out: a stamp's four bytes, body, zeros up to 28, and the four bytes again.
func written(side [4]byte, body []byte) []byte {
	return slices.Concat(side[:], body, make([]byte, 24-len(body)), side[:])
}

// within gives b as a part of a greater list, with 255 ahead of it and behind it.
func within(b []byte) (part, whole []byte) {
	whole = slices.Concat(bytes.Repeat([]byte{255}, 40), b, bytes.Repeat([]byte{255}, 40))
	return whole[40 : 40+len(b)], whole
}

func spoil(b []byte) {
	for i := range b {
		b[i] ^= 255
	}
}

// wantMake asks for bytes without an error, or for an error and nothing beside it; and that neither body nor what is about it is written into.
func wantMake(t *testing.T, n int, body, want []byte, told api.Errno) {
	t.Helper()
	part, whole := within(body)
	before := bytes.Clone(whole)
	got, err := stamp.Make(n, part)
	if plain.Told(err) != told || !bytes.Equal(got, want) {
		t.Errorf("Make(%d, %v): got %v, %v; want %v, %v", n, body, got, err, want, told)
	}
	if !bytes.Equal(whole, before) {
		t.Errorf("Make(%d, %v) wrote into what it was given", n, body)
	}
}

func wantOpen(t *testing.T, sector []byte, n int, body []byte, told api.Errno) {
	t.Helper()
	part, whole := within(sector)
	before := bytes.Clone(whole)
	gotStamp, got, err := stamp.Open(part)
	if plain.Told(err) != told || gotStamp != n || !bytes.Equal(got, body) {
		t.Errorf("Open(%v): got %d, %v, %v; want %d, %v, %v", sector, gotStamp, got, err, n, body, told)
	}
	if !bytes.Equal(whole, before) {
		t.Errorf("Open(%v) wrote into what it was given", sector)
	}
}

func wantMix(t *testing.T, a, b []byte, cut int, want []byte, told api.Errno) {
	t.Helper()
	partA, wholeA := within(a)
	partB, wholeB := within(b)
	beforeA, beforeB := bytes.Clone(wholeA), bytes.Clone(wholeB)
	got, err := stamp.Mix(partA, partB, cut)
	if plain.Told(err) != told || !bytes.Equal(got, want) {
		t.Errorf("Mix(%v, %v, %d): got %v, %v; want %v, %v", a, b, cut, got, err, want, told)
	}
	if !bytes.Equal(wholeA, beforeA) || !bytes.Equal(wholeB, beforeB) {
		t.Errorf("Mix(%v, %v, %d) wrote into what it was given", a, b, cut)
	}
}

func made(t *testing.T, n int, body []byte) []byte {
	t.Helper()
	got, err := stamp.Make(n, body)
	if err != nil {
		t.Fatalf("Make(%d, %v): %v", n, body, err)
	}
	return got
}

func TestMakeEachLength(t *testing.T) {
	side := [4]byte{0x78, 0x56, 0x34, 0x12}
	for n := range 25 {
		body := filled(n, n)
		wantMake(t, 0x12345678, body, written(side, body), api.OK)
	}
	for _, n := range []int{25, 26, 28, 32, 1000} {
		wantMake(t, 0x12345678, filled(n, n), nil, api.ErrFull)
	}
}

func TestMakeOfNoBody(t *testing.T) {
	for _, body := range [][]byte{nil, {}} {
		got, err := stamp.Make(7, body)
		if err != nil || !bytes.Equal(got, written([4]byte{7}, nil)) {
			t.Errorf("Make(7, %#v): got %v, %v", body, got, err)
		}
	}
}

func TestMakeEachStamp(t *testing.T) {
	body := filled(1, 3)
	wantMake(t, 1, body, written([4]byte{1}, body), api.OK)
	wantMake(t, 255, body, written([4]byte{255}, body), api.OK)
	wantMake(t, 256, body, written([4]byte{0, 1}, body), api.OK)
	wantMake(t, 1<<16, body, written([4]byte{0, 0, 1}, body), api.OK)
	wantMake(t, 1<<24, body, written([4]byte{0, 0, 0, 1}, body), api.OK)
	wantMake(t, api.MaxStamp-1, body, written([4]byte{254, 255, 255, 255}, body), api.OK)
	wantMake(t, api.MaxStamp, body, written([4]byte{255, 255, 255, 255}, body), api.OK)
}

var noStamps = []int{0, -1, -256, 1 << 32, 1<<32 + 1, math.MaxInt, math.MinInt, -(1<<32 - 1)}

func TestMakeOfNoStamp(t *testing.T) {
	for _, n := range noStamps {
		wantMake(t, n, nil, nil, api.ErrRange)
		wantMake(t, n, filled(1, 24), nil, api.ErrRange)
	}
}

func TestMakeTellsRangeAheadOfFull(t *testing.T) {
	for _, n := range noStamps {
		wantMake(t, n, filled(1, 25), nil, api.ErrRange)
	}
}

func TestMakeKeepsNothing(t *testing.T) {
	body := filled(1, 24)
	want := written([4]byte{5}, body)
	first := made(t, 5, body)
	second := made(t, 5, body)
	spoil(body)
	if !bytes.Equal(first, want) {
		t.Errorf("what Make gave has changed with its body: %v", first)
	}
	spoil(first)
	if !bytes.Equal(second, want) || !bytes.Equal(made(t, 5, filled(1, 24)), want) {
		t.Errorf("what Make gave has changed with what it gave ahead: %v", second)
	}
}

func TestOpenWhatMakeMade(t *testing.T) {
	for _, n := range []int{1, 2, 255, 256, 0x12345678, api.MaxStamp - 1, api.MaxStamp} {
		for k := range 25 {
			body := filled(k, k)
			wantOpen(t, made(t, n, body), n, append(body, make([]byte, 24-k)...), api.OK)
		}
	}
}

func TestOpenOfOtherLengths(t *testing.T) {
	whole := written([4]byte{7}, filled(1, 24))
	for n := range 32 {
		wantOpen(t, whole[:n], 0, nil, api.ErrShape)
		wantOpen(t, make([]byte, n), 0, nil, api.ErrShape)
	}
	wantOpen(t, append(bytes.Clone(whole), 0), 0, nil, api.ErrShape)
	wantOpen(t, make([]byte, 33), 0, nil, api.ErrShape)
	wantOpen(t, append(bytes.Clone(whole), whole...), 0, nil, api.ErrShape)
	n, body, err := stamp.Open(nil)
	if n != 0 || len(body) != 0 || plain.Told(err) != api.ErrShape {
		t.Errorf("Open(nil): got %d, %v, %v", n, body, err)
	}
	wantOpen(t, whole, 7, filled(1, 24), api.OK)
}

func TestOpenOfNoStamp(t *testing.T) {
	wantOpen(t, make([]byte, 32), 0, nil, api.ErrNone)
	wantOpen(t, written([4]byte{}, filled(3, 24)), 0, nil, api.ErrNone)
}

// Each bit of each side counts, and one side of 0 is not both.
func TestOpenOfTwoStamps(t *testing.T) {
	for _, side := range [][4]byte{{0x78, 0x56, 0x34, 0x12}, {255, 255, 255, 255}, {}} {
		for i := range 4 {
			for bit := range 8 {
				for _, at := range []int{i, 28 + i} {
					s := written(side, filled(2, 24))
					s[at] ^= 1 << bit
					wantOpen(t, s, 0, nil, api.ErrState)
				}
			}
		}
	}
}

func TestOpenOfOneStamp(t *testing.T) {
	s := written([4]byte{9, 8, 7, 6}, filled(2, 24))
	wantOpen(t, slices.Concat(s[:28], make([]byte, 4)), 0, nil, api.ErrState)
	wantOpen(t, slices.Concat(make([]byte, 4), s[4:]), 0, nil, api.ErrState)
}

func TestOpenGivesACopy(t *testing.T) {
	s := written([4]byte{5}, filled(1, 24))
	_, first, err := stamp.Open(s)
	_, second, bad := stamp.Open(s)
	if err != nil || bad != nil {
		t.Fatalf("Open: %v, %v", err, bad)
	}
	spoil(s)
	if !bytes.Equal(first, filled(1, 24)) {
		t.Errorf("what Open gave has changed with the sector: %v", first)
	}
	spoil(first)
	if !bytes.Equal(second, filled(1, 24)) {
		t.Errorf("what Open gave has changed with what it gave ahead: %v", second)
	}
	spoil(s)
	_ = append(second, filled(9, 24)...)
	wantOpen(t, s, 5, filled(1, 24), api.OK)
}

func TestMixEachCut(t *testing.T) {
	a, b := filled(1, 32), filled(4, 32)
	for cut := range 33 {
		wantMix(t, a, b, cut, slices.Concat(a[:cut], b[cut:]), api.OK)
	}
	wantMix(t, a, a, 9, a, api.OK)
}

var noCuts = []int{-1, 33, -32, 34, 1<<32 + 1, math.MaxInt, math.MinInt}

func TestMixOfNoCut(t *testing.T) {
	for _, cut := range noCuts {
		wantMix(t, filled(1, 32), filled(4, 32), cut, nil, api.ErrRange)
	}
}

func TestMixOfOtherLengths(t *testing.T) {
	whole := filled(1, 32)
	for _, n := range []int{0, 1, 16, 31, 33, 64} {
		for _, cut := range []int{0, 1, 16, 31, 32} {
			wantMix(t, filled(4, n), whole, cut, nil, api.ErrShape)
			wantMix(t, whole, filled(4, n), cut, nil, api.ErrShape)
			wantMix(t, filled(4, n), filled(5, n), cut, nil, api.ErrShape)
		}
	}
	wantMix(t, filled(4, 31), filled(5, 33), 31, nil, api.ErrShape)
	for _, lists := range [][2][]byte{{nil, whole}, {whole, nil}, {nil, nil}} {
		if got, err := stamp.Mix(lists[0], lists[1], 0); len(got) != 0 || plain.Told(err) != api.ErrShape {
			t.Errorf("Mix(%v, %v, 0): got %v, %v", lists[0], lists[1], got, err)
		}
	}
}

func TestMixTellsShapeAheadOfRange(t *testing.T) {
	for _, cut := range noCuts {
		wantMix(t, filled(4, 31), filled(1, 32), cut, nil, api.ErrShape)
		wantMix(t, filled(1, 32), filled(4, 33), cut, nil, api.ErrShape)
	}
}

func TestMixGivesFreshMemory(t *testing.T) {
	for _, cut := range []int{0, 1, 31, 32} {
		a, b := filled(1, 32), filled(4, 32)
		want := slices.Concat(a[:cut], b[cut:])
		first, err := stamp.Mix(a, b, cut)
		second, bad := stamp.Mix(a, b, cut)
		if err != nil || bad != nil {
			t.Fatalf("Mix at %d: %v, %v", cut, err, bad)
		}
		spoil(a)
		spoil(b)
		if !bytes.Equal(first, want) {
			t.Errorf("what Mix gave has changed with what it was given: %v", first)
		}
		spoil(first)
		if !bytes.Equal(second, want) {
			t.Errorf("what Mix gave has changed with what it gave ahead: %v", second)
		}
	}
}

// pairs of stamps that differ in each byte alone, in several, and in all.
var pairs = [][2]int{
	{1, 2}, {1, 257}, {256, 512}, {256, 1}, {0x10001, 1}, {0x1000001, 1}, {1 << 24, 1 << 16},
	{0x12345678, 0x12345679}, {0x12345678, 0x12345778}, {0x12345678, 0x12355678}, {0x12345678, 0x13345678},
	{0x12345678, 0x78563412}, {0x01020304, 0x05060708}, {api.MaxStamp, 1}, {api.MaxStamp, api.MaxStamp - 1},
}

// opened tells what is in a sector, and whether it is whole; 0 and nil, if it is not.
type opened struct {
	stamp int
	body  string
	told  api.Errno
}

func open(sector []byte) opened {
	n, body, err := stamp.Open(sector)
	return opened{n, string(body), plain.Told(err)}
}

// wantOneOrNone asks of a sector that is torn between a and b, at each place, that it is the one, or the other, whole, or none.
func wantOneOrNone(t *testing.T, a, b []byte) {
	t.Helper()
	one, other := open(a), open(b)
	for cut := range 33 {
		torn, err := stamp.Mix(a, b, cut)
		if err != nil {
			t.Fatalf("Mix at %d: %v", cut, err)
		}
		got := open(torn)
		isNone := got == opened{told: api.ErrNone} || got == opened{told: api.ErrState}
		if got != one && got != other && !isNone {
			t.Errorf("of %v and %v, torn at %d: got %#v", a, b, cut, got)
		}
		if cut == 0 && got != other || cut == 32 && got != one {
			t.Errorf("of %v and %v, not torn, at %d: got %#v", a, b, cut, got)
		}
	}
}

func TestTornIsOneOrNone(t *testing.T) {
	empty := make([]byte, 32)
	for _, p := range pairs {
		a, b := made(t, p[0], filled(1, 24)), made(t, p[1], filled(4, 24))
		wantOneOrNone(t, a, b)
		wantOneOrNone(t, b, a)
		wantOneOrNone(t, a, empty)
		wantOneOrNone(t, empty, a)
	}
}

// Where all bytes of the stamps differ, none but the two ends is whole.
func TestTornBetweenIsNone(t *testing.T) {
	a, b := made(t, 0x01020304, filled(1, 24)), made(t, 0x05060708, filled(4, 24))
	wantTorn := func(cut, n int, body []byte, told api.Errno) {
		t.Helper()
		torn, err := stamp.Mix(a, b, cut)
		if err != nil {
			t.Fatalf("Mix at %d: %v", cut, err)
		}
		wantOpen(t, torn, n, body, told)
	}
	wantTorn(0, 0x05060708, filled(4, 24), api.OK)
	for cut := 1; cut < 32; cut++ {
		wantTorn(cut, 0, nil, api.ErrState)
	}
	wantTorn(32, 0x01020304, filled(1, 24), api.OK)
}
