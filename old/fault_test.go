package old_test

import (
	"bytes"
	"slices"
	"testing"

	"vaultkeel/api"
	"vaultkeel/old"
	"vaultkeel/plain"
)

// The parts of which fullParts has an image of old, in their order; an object has four, a root two.
const (
	theBeginning = 0
	theObjects   = 1
	theFirst     = 2
	theSecond    = theFirst + 4
	theLast      = theFirst + 4*6
	theRoots     = theLast + 4
	theMain      = theRoots + 1
	theOther     = theMain + 2
	theEnd       = theOther + 2
)

// Of an object, and of a root.
const (
	itsHandle = 0
	itsTag    = 1
	itsLen    = 2
	itsBytes  = 3
	itsName   = 0
	itsLead   = 1
)

// fullParts gives an image of old in parts: seven objects that have all the room there is, two roots, and nothing more.
func fullParts() [][]byte {
	l := [][]byte{begin, {7}}
	for i, size := range []int{1000, 1000, 1000, 1000, 1000, 1000, 112} {
		l = append(l, []byte{byte(30 - i)}, []byte{byte(15 - i)}, low(size), stuff(size, i))
	}
	return append(l, []byte{2}, letters("main"), []byte{30}, letters("b"), []byte{24}, nil)
}

// fault is one that an image of old may have: in which part it is, and how that part, and what belongs to it, has to be.
type fault struct {
	part  int
	parts map[int][]byte
	told  api.Errno
}

// single gives a fault of one part alone.
func single(part int, told api.Errno, b ...byte) fault {
	return fault{part, map[int][]byte{part: b}, told}
}

// faults gives at least one of each kind, of the first, of a later and of the last one that may have it.
func faults() []fault {
	l := []fault{
		single(theBeginning, api.ErrSyntax, 79, 76, 68, 50),
		single(theBeginning, api.ErrSyntax, 0, 0, 0, 0),
		single(theObjects, api.ErrSyntax, 41),
		single(theObjects, api.ErrSyntax, 255),
		single(theSecond+itsHandle, api.ErrClash, 30),
		single(theLast+itsHandle, api.ErrClash, 30),
		single(theLast+itsHandle, api.ErrClash, 25),
		{theLast + itsBytes, map[int][]byte{theLast + itsLen: low(113), theLast + itsBytes: stuff(113, 1)}, api.ErrFull},
		{theLast + itsBytes, map[int][]byte{theLast + itsLen: low(1000), theLast + itsBytes: stuff(1000, 1)}, api.ErrFull},
		single(theRoots, api.ErrSyntax, 9),
		single(theRoots, api.ErrSyntax, 255),
		single(theOther+itsName, api.ErrClash, letters("main")...),
		single(theEnd, api.ErrSyntax, 0),
		single(theEnd, api.ErrSyntax, 79, 76, 68, 49),
	}
	for _, object := range []int{theFirst, theSecond, theLast} {
		l = append(l,
			single(object+itsHandle, api.ErrRange, 0),
			single(object+itsHandle, api.ErrRange, 41),
			single(object+itsHandle, api.ErrRange, 255),
			single(object+itsTag, api.ErrRange, 16),
			single(object+itsTag, api.ErrRange, 255),
			single(object+itsLen, api.ErrRange, 0, 0),
			single(object+itsLen, api.ErrRange, low(1001)...),
			single(object+itsLen, api.ErrRange, 255, 255),
		)
	}
	for _, root := range []int{theMain, theOther} {
		l = append(l,
			single(root+itsName, api.ErrSyntax, letters("")...),
			single(root+itsName, api.ErrSyntax, letters("Main")...),
			single(root+itsName, api.ErrSyntax, letters("ma\x00n")...),
			single(root+itsLead, api.ErrRange, 0),
			single(root+itsLead, api.ErrRange, 41),
			single(root+itsLead, api.ErrRange, 255),
			single(root+itsLead, api.ErrNone, 1),
			single(root+itsLead, api.ErrNone, 40),
		)
	}
	return l
}

// with gives parts with a fault.
func (f fault) with(parts [][]byte) [][]byte {
	out := slices.Clone(parts)
	for i, b := range f.parts {
		out[i] = b
	}
	return out
}

// wantTold asks Up for an error, briefly.
func wantTold(t *testing.T, b []byte, want api.Errno, what ...any) {
	t.Helper()
	if out, err := old.Up(b); plain.Told(err) != want || len(out) != 0 {
		t.Errorf("%v: got %d bytes, %v; want %v", what, len(out), err, want)
	}
}

func TestPartsAreRight(t *testing.T) {
	var things []thing
	for i, size := range []int{1000, 1000, 1000, 1000, 1000, 1000, 112} {
		things = append(things, thing{30 - i, 15 - i, stuff(size, i)})
	}
	leads := []lead{{"main", 30}, {"b", 24}}
	b := slices.Concat(fullParts()...)
	if !bytes.Equal(b, once(things, leads)) {
		t.Fatal("the parts are not what they are to be")
	}
	wantUp(t, b, now(things, leads))
}

func TestEachFaultAlone(t *testing.T) {
	for _, f := range faults() {
		wantNoUp(t, slices.Concat(f.with(fullParts())...), f.told)
	}
}

// Of two faults the one further left is told.
func TestTheFirstFaultIsTold(t *testing.T) {
	for i, f := range faults() {
		for k, g := range faults() {
			if f.part < g.part {
				wantTold(t, slices.Concat(f.with(g.with(fullParts()))...), f.told, "faults", i, k)
			}
		}
	}
}

// A fault is told as soon as the part that has it is there, whatever lacks behind it; till then bytes lack. What lacks stands right behind in memory.
func TestFaultsWithBytesThatLack(t *testing.T) {
	for i, f := range faults() {
		parts := f.with(fullParts())
		b := slices.Concat(parts...)
		end := len(slices.Concat(parts[:f.part+1]...))
		cuts := []int{0, 3, 4, 5, 6, end - 2, end - 1, end, end + 1, end + 7, end + 8, end + 9, len(b) - 9, len(b) - 1, len(b)}
		for _, n := range cuts {
			if n < 0 || n > len(b) || f.part == theEnd { // what is more than may be does not lack
				continue
			}
			want := api.ErrSyntax
			if n >= end {
				want = f.told
			}
			wantTold(t, b[:n], want, "fault", i, "cut at", n, "of", len(b))
		}
	}
}

// Cut short at every place, with what lacks right behind in memory and without it.
func TestBytesThatLack(t *testing.T) {
	for _, b := range [][]byte{once(nil, nil), once(some()), once(many()), slices.Concat(fullParts()...)} {
		for n := range b {
			wantTold(t, b[:n], api.ErrSyntax, "cut at", n)
			wantTold(t, slices.Clone(b[:n]), api.ErrSyntax, "a copy cut at", n)
		}
	}
	wantNoUp(t, nil, api.ErrSyntax)
	wantNoUp(t, []byte{}, api.ErrSyntax)
	wantTold(t, nil, api.ErrSyntax, "nil")
}

// One byte more, or many, whatever they are.
func TestMoreFollows(t *testing.T) {
	for _, b := range [][]byte{once(nil, nil), once(some()), once(many())} {
		for c := range 256 {
			wantNoUp(t, append(slices.Clone(b), byte(c)), api.ErrSyntax)
		}
		wantNoUp(t, append(slices.Clone(b), b...), api.ErrSyntax)
		wantNoUp(t, append(slices.Clone(b), make([]byte, 70_000)...), api.ErrSyntax)
	}
}

func TestOtherBeginnings(t *testing.T) {
	b := once(some())
	for at := range 4 {
		for c := range 256 {
			if byte(c) != b[at] {
				wantTold(t, replaced(b, at, byte(c)), api.ErrSyntax, "byte", at, c)
			}
		}
	}
	wantNoUp(t, b[1:], api.ErrSyntax)
	wantNoUp(t, b[4:], api.ErrSyntax)
	wantNoUp(t, append([]byte{0}, b...), api.ErrSyntax)
	wantNoUp(t, make([]byte, 6400), api.ErrSyntax)
	wantNoUp(t, now(some()), api.ErrSyntax)
	wantNoUp(t, now(many()), api.ErrSyntax)
}

// More objects than 40, and more roots than 8, are told ahead of them, whether they are there or not.
func TestMoreThanMayBe(t *testing.T) {
	things, leads := many()
	for n := 41; n <= 255; n++ {
		wantTold(t, replaced(once(things, leads), 4, byte(n)), api.ErrSyntax, "objects", n)
		wantTold(t, []byte{79, 76, 68, 49, byte(n)}, api.ErrSyntax, "objects", n, "none of them there")
	}
	for _, more := range []thing{{41, 1, stuff(1, 1)}, {40, 1, stuff(1, 1)}, {0, 16, nil}} {
		wantNoUp(t, once(append(slices.Clone(things), more), leads), api.ErrSyntax)
		wantNoUp(t, once(append([]thing{more}, things...), leads), api.ErrSyntax)
	}
	bare := once(things, nil)
	roots := len(bare) - 1
	for n := 9; n <= 255; n++ {
		wantTold(t, replaced(once(things, leads), roots, byte(n)), api.ErrSyntax, "roots", n)
		wantTold(t, replaced(bare, roots, byte(n)), api.ErrSyntax, "roots", n, "none of them there")
	}
	for _, more := range []lead{{"a", 1}, {"h", 1}, {"a", 0}} {
		wantNoUp(t, once(things, append([]lead{more}, leads...)), api.ErrSyntax)
	}
}

// Fewer than there are: what is left over is read as something else, and never right here.
func TestFewerThanThereAre(t *testing.T) {
	b := once(some())
	wantNoUp(t, replaced(b, 4, 2), api.ErrSyntax)         // 40 roots
	wantNoUp(t, replaced(b, len(b)-19, 1), api.ErrSyntax) // a root follows
	wantNoUp(t, replaced(b, len(b)-19, 0), api.ErrSyntax)
}

func TestEachHandle(t *testing.T) {
	things := func(handle int) []thing { return []thing{{5, 1, stuff(3, 1)}, {handle, 2, stuff(4, 2)}} }
	for handle := range 256 {
		l := things(handle)
		switch {
		case handle < 1 || handle > 40:
			wantNoUp(t, once(l, nil), api.ErrRange)
			wantNoUp(t, once(l[1:], nil), api.ErrRange)
		case handle == 5:
			wantNoUp(t, once(l, nil), api.ErrClash)
		default:
			wantUp(t, once(l, nil), now(l, nil))
		}
	}
}

// A handle that is there twice is told, be all else of the two the same or not, and however far they are from each other.
func TestHandlesTwice(t *testing.T) {
	things, _ := many()
	things = things[:30]
	for i := range 29 {
		twice := slices.Clone(things)
		twice[29].handle = things[i].handle
		wantNoUp(t, once(twice, nil), api.ErrClash)
	}
	wantNoUp(t, once([]thing{things[0], things[0]}, nil), api.ErrClash)
	bad := []thing{things[0], {things[0].handle, 16, nil}}
	wantNoUp(t, once(bad, nil), api.ErrClash)
}

func TestEachTag(t *testing.T) {
	for tag := range 256 {
		l := []thing{{5, tag, stuff(3, 1)}}
		if tag > 15 {
			wantNoUp(t, once(l, nil), api.ErrRange)
			wantNoUp(t, once(l, nil)[:7], api.ErrRange)
			continue
		}
		wantUp(t, once(l, nil), now(l, nil))
	}
}

// Each Len that may not be, with all its bytes there, with some, and with none of them.
func TestLensThatMayNotBe(t *testing.T) {
	b := append(once([]thing{{5, 1, make([]byte, 65_535)}}, nil), 0)
	for n := range 65_536 {
		if 1 <= n && n <= 1000 {
			continue
		}
		copy(b[7:], low(n))
		wantTold(t, b[:9+n], api.ErrRange, "Len", n)
		wantTold(t, b[:9+n+1], api.ErrRange, "Len", n, "and no roots")
		wantTold(t, b[:9+n/2], api.ErrRange, "Len", n, "and half of its bytes")
		wantTold(t, b[:9], api.ErrRange, "Len", n, "and no bytes")
	}
}

// Where its bytes lack and would have no room besides, they lack.
func TestNoRoom(t *testing.T) {
	var l []thing
	for handle := 1; handle <= 6; handle++ {
		l = append(l, thing{handle, 0, stuff(1000, handle)})
	}
	for n := 113; n <= 1000; n++ {
		b := once(append(slices.Clone(l), thing{40, 0, stuff(n, 1)}), nil)
		wantTold(t, b, api.ErrFull, "bytes", n)
		wantTold(t, b[:len(b)-1], api.ErrFull, "bytes", n, "and nothing behind them")
		wantTold(t, b[:len(b)-2], api.ErrSyntax, "bytes", n, "of which one lacks")
	}
	things, leads := many()
	for i := range things {
		more := slices.Clone(things)
		more[i].body = append(slices.Clone(more[i].body), 1)
		want := api.ErrFull
		if len(more[i].body) > 1000 {
			want = api.ErrRange
		}
		wantNoUp(t, once(more, leads), want)
	}
	full := append(slices.Clone(l), thing{7, 0, stuff(112, 1)}, thing{8, 0, stuff(1, 1)})
	wantNoUp(t, once(full, nil), api.ErrFull)
}

// Each byte at each place of a name: what is no name is told, whatever handle is behind it, or none.
func TestNamesThatAreNone(t *testing.T) {
	things, _ := some()
	for _, name := range []string{"a", "ab", "abcdefg", "abcdefgh"} {
		for at := range 8 {
			for c := range 256 {
				b := replaced(letters(name), at, byte(c))
				short := bytes.TrimRight(b, "\x00")
				isName := len(short) > 0 && len(bytes.Trim(short, "abcdefghijklmnopqrstuvwxyz")) == 0
				l := []lead{{string(b), 7}}
				if isName {
					if out, err := old.Up(once(things, l)); err != nil || !bytes.Equal(out, now(things, l)) {
						t.Errorf("Up with the root %q: got %d bytes, %v", b, len(out), err)
					}
					continue
				}
				wantTold(t, once(things, l), api.ErrSyntax, b)
				wantTold(t, once(things, []lead{{string(b), 0}}), api.ErrSyntax, b, "and handle 0")
				wantTold(t, once(things, []lead{{string(b), 1}}), api.ErrSyntax, b, "and handle 1")
			}
		}
	}
}

// A name that is there twice is told, also where its handle lacks, is none, or is that of no object.
func TestNamesTwice(t *testing.T) {
	things, _ := some()
	var leads []lead
	for _, name := range rootNames {
		leads = append(leads, lead{name, 7})
	}
	for i := range 7 {
		for _, handle := range []int{7, 2, 0, 1, 41, 255} {
			twice := slices.Clone(leads)
			twice[7] = lead{leads[i].name, handle}
			b := once(things, twice)
			wantNoUp(t, b, api.ErrClash)
			wantNoUp(t, b[:len(b)-1], api.ErrClash)
			wantNoUp(t, append(b, 0), api.ErrClash)
			wantNoUp(t, b[:len(b)-2], api.ErrSyntax)
		}
	}
}

func TestEachLead(t *testing.T) {
	things, _ := some()
	for handle := range 256 {
		for _, ahead := range [][]lead{nil, {{"b", 2}}} {
			l := append(slices.Clone(ahead), lead{"a", handle})
			switch {
			case handle < 1 || handle > 40:
				wantNoUp(t, once(things, l), api.ErrRange)
			case handle != 7 && handle != 2 && handle != 40:
				wantNoUp(t, once(things, l), api.ErrNone)
			default:
				wantUp(t, once(things, l), now(things, l))
			}
		}
		if 1 <= handle && handle <= 40 {
			wantNoUp(t, once(nil, []lead{{"a", handle}}), api.ErrNone)
		}
	}
}
