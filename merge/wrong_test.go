package merge_test

import (
	"bytes"
	"slices"
	"testing"

	"vaultkeel/api"
	"vaultkeel/merge"
	"vaultkeel/plain"
)

// noLengths are such as no image has.
var noLengths = []int{0, 1, 287, 6401, 6500, 65536 + 288, 65536 + 400}

// replaced gives a copy of b with other bytes from at on.
func replaced(b []byte, at int, row ...byte) []byte {
	return slices.Concat(b[:at], row, b[at+len(row):])
}

// faulty gives images of 320 bytes that are not right, one for each fault that there may be.
func faulty() [][]byte {
	b := rooted(at(at(bare(320), 290, thing{2, 3, "abc"}), 300, thing{9, 4, "xyz"}), 1, lead{"main", 9})
	return [][]byte{
		replaced(b, 0, 1, 31, 1, 1, 0),               // Stray: ahead of Head
		replaced(b, 0, 1, 63, 1, 2, 0),               // Stray: not all of it is there
		replaced(b, 0, 1, 32, 1, 0, 0),               // Stray: no bytes
		replaced(b, 0, 1, 32, 1, 233, 3),             // Stray: too many
		replaced(b, 0, 17, 32, 1, 1, 0),              // Stray: a tag above 15
		replaced(b, 195, 1, 46, 1, 1, 0),             // Over 9
		replaced(b, 10, 0, 0, 0, 1, 0),               // Empty
		rooted(b, 0, lead{"A", 9}),                   // Bad: no name
		rooted(b, 7, lead{"b", 3}),                   // Bad: no object
		replaced(rooted(b, 0, lead{"b", 9}), 208, 1), // Bad: a byte between
		rooted(b, 7, lead{"main", 2}),                // Twice
		replaced(b, 40, 0, 0, 0, 0, 0),               // the object is none, and the root leads there still
		append(bytes.Repeat([]byte{255}, 319), 0),    // all at once
		append(bytes.Repeat([]byte{1}, 288), b[288:]...),
	}
}

func TestShapeOfLengthsThatAreNone(t *testing.T) {
	for _, n := range noLengths {
		b := make([]byte, n)
		wantNoMoved(t, b, b, api.ErrShape)
		wantNoMoved(t, bytes.Repeat([]byte{255}, n), b, api.ErrShape)
		wantNoWay(t, b, b, b, api.ErrShape)
		for _, m := range append(slices.Clone(noLengths), lengths...) {
			other := make([]byte, m)
			wantNoMoved(t, b, other, api.ErrShape)
			wantNoWay(t, b, b, other, api.ErrShape)
			wantNoWay(t, b, other, other, api.ErrShape)
		}
	}
}

func TestShapeOfNil(t *testing.T) {
	for _, b := range [][]byte{nil, {}, make([]byte, 288), bare(6400), faulty()[0]} {
		for _, two := range [][2][]byte{{nil, b}, {b, nil}} {
			if l, err := merge.Moved(two[0], two[1]); len(l) > 0 || plain.Told(err) != api.ErrShape {
				t.Errorf("Moved of nil: %v, %v", l, err)
			}
		}
		for _, three := range [][3][]byte{{nil, b, b}, {b, nil, b}, {b, b, nil}, {nil, nil, b}, {nil, b, nil}, {b, nil, nil}, {nil, nil, nil}} {
			if out, l, err := merge.Three(three[0], three[1], three[2]); len(out) > 0 || len(l) > 0 || plain.Told(err) != api.ErrShape {
				t.Errorf("Three of nil: %d bytes, %v, %v", len(out), l, err)
			}
		}
	}
}

// Images of which one is longer, for each of them; by a byte, or by as many as there may be.
func TestShapeWhereOneIsLonger(t *testing.T) {
	for _, n := range lengths {
		for _, m := range lengths {
			if n == m {
				continue
			}
			wantNoMoved(t, make([]byte, n), make([]byte, m), api.ErrShape)
			wantNoWay(t, make([]byte, n), make([]byte, n), make([]byte, m), api.ErrShape)
			wantNoWay(t, make([]byte, n), make([]byte, m), make([]byte, 300), api.ErrShape)
		}
	}
	w := of(x, left, right).led(lead{"main", 5})
	wantNoMoved(t, laid(t, 400, w, apart), laid(t, 401, w, apart), api.ErrShape)
	wantNoWay(t, laid(t, 400, w, apart), laid(t, 401, w, apart), laid(t, 400, w, apart), api.ErrShape)
}

// ErrShape comes first of all, also where one, or each, is not right besides.
func TestShapeAheadOfState(t *testing.T) {
	for _, b := range faulty() {
		for _, n := range append([]int{321, 319, 288, 6400}, noLengths...) {
			other := make([]byte, n)
			wantNoMoved(t, b, other, api.ErrShape)
			wantNoWay(t, b, b, other, api.ErrShape)
			wantNoWay(t, b, other, other, api.ErrShape)
			wantNoWay(t, b, make([]byte, 320), other, api.ErrShape)
		}
		longer := append(bytes.Clone(b), 0)
		wantNoMoved(t, b, longer, api.ErrShape)
		wantNoWay(t, b, b, longer, api.ErrShape)
		wantNoWay(t, b, make([]byte, 320), longer, api.ErrShape)
		short := b[:287]
		wantNoMoved(t, short, short, api.ErrShape)
		wantNoWay(t, short, short, short, api.ErrShape)
	}
}

// Each of them not right, and all others right; and all of them not right.
func TestState(t *testing.T) {
	w := laid(t, 320, of(thing{2, 3, "abc"}, thing{9, 4, "xyz"}).led(lead{"main", 9}), apart)
	for i, b := range faulty() {
		if len(b) != 320 {
			t.Fatalf("number %d has %d bytes", i, len(b))
		}
		for _, other := range [][]byte{make([]byte, 320), w, bare(320)} {
			wantNoMoved(t, b, other, api.ErrState)
			wantNoWay(t, b, other, other, api.ErrState)
			wantNoWay(t, b, w, other, api.ErrState)
			wantNoWay(t, b, b, other, api.ErrState)
		}
		wantNoMoved(t, b, b, api.ErrState)
		wantNoThree(t, b, b, b, api.ErrState)
	}
}

// One that is not right is told ahead of room and of roots that there are not.
func TestStateAheadOfFull(t *testing.T) {
	a, b := of(thing{1, 0, text(20, 1)}), of(thing{2, 0, text(20, 2)})
	wantFull(t, 320, of(), a, b)
	for _, bad := range faulty() {
		wantNoThree(t, bad, laid(t, 320, a, apart), laid(t, 320, b, apart), api.ErrState)
	}
}

func TestFull(t *testing.T) {
	for _, c := range []struct{ n, one, other int }{
		{289, 1, 1}, {290, 1, 2}, {290, 2, 2}, {400, 60, 53}, {400, 112, 1}, {400, 1, 112}, {400, 112, 112}, {1288, 1000, 1}, {2287, 1000, 1000},
	} {
		wantFull(t, c.n, of(), of(thing{1, 0, text(c.one, 1)}), of(thing{2, 0, text(c.other, 2)}))
	}
	// Beside such as nobody touched.
	wantFull(t, 400, of(left), of(left, thing{2, 0, text(54, 1)}), of(left, thing{3, 0, text(55, 1)}))
	// By what is longer now, in one and in the other.
	wantFull(t, 400, of(thing{1, 0, text(56, 1)}, thing{2, 0, text(30, 2)}), of(thing{1, 0, text(80, 1)}, thing{2, 0, text(30, 2)}), of(thing{1, 0, text(56, 1)}, thing{2, 0, text(33, 2)}))
}

func TestJustRoomEnough(t *testing.T) {
	for _, c := range []struct{ n, one, other int }{
		{290, 1, 1}, {400, 60, 52}, {400, 111, 1}, {400, 1, 111}, {1289, 1000, 1}, {2288, 1000, 1000},
	} {
		one, other := thing{1, 0, text(c.one, 1)}, thing{2, 0, text(c.other, 2)}
		wantMerged(t, c.n, of(), of(one), of(other), of(one, other))
		wantMerged(t, c.n, of(), of(other), of(one), of(one, other))
	}
	wantMerged(t, 400, of(left), of(left, thing{2, 0, text(54, 1)}), of(left, thing{3, 0, text(54, 1)}), of(left, thing{2, 0, text(54, 1)}, thing{3, 0, text(54, 1)}))
}

// What one dropped makes room for what the other made, though they never stood together.
func TestRoomOfWhatWasDropped(t *testing.T) {
	old, one, other := thing{1, 0, text(100, 1)}, thing{2, 0, text(110, 2)}, thing{3, 0, text(12, 3)}
	wantMerged(t, 400, of(old), of(), of(old, other), of(other))
	wantMerged(t, 400, of(old), of(one), of(old), of(one))
	wantFull(t, 400, of(old), of(one), of(old, other))
	wantMerged(t, 410, of(old), of(one), of(old, other), of(one, other))
}

// Of what both made otherwise that of a takes room, not that of b.
func TestRoomOfWhatIsTold(t *testing.T) {
	long, short, fresh := thing{1, 0, text(100, 1)}, thing{1, 0, text(10, 1)}, thing{2, 0, text(50, 2)}
	base := of(thing{1, 0, "x"})
	withNew := of(short, fresh)
	wantMerged(t, 400, base, withNew, of(long), withNew, 1)
	b := laid(t, 400, base, apart)
	wantNoThree(t, b, laid(t, 400, of(long), apart), laid(t, 400, withNew, apart), api.ErrFull) // and nothing is told
}

// ledTo gives roots of these names, all of which lead to one object.
func ledTo(handle int, names ...string) []lead {
	var l []lead
	for _, name := range names {
		l = append(l, lead{name, handle})
	}
	return l
}

func TestManyRoots(t *testing.T) {
	w := of(x)
	none := w.led()
	all := ledTo(5, "a", "b", "c", "d", "e", "f", "g", "h", "i", "j", "k", "l", "m", "n", "o", "p")
	for inA := 1; inA <= 8; inA++ {
		for inB := 1; inB <= 8; inB++ {
			a, b := w.led(all[:inA]...), w.led(all[inA:inA+inB]...)
			if inA+inB > 8 {
				wantFull(t, 400, none, a, b)
			} else {
				wantMerged(t, 400, none, a, b, w.led(all[:inA+inB]...))
			}
		}
	}
	// Each has eight, of which some are the same.
	wantMerged(t, 400, none, w.led(all[:8]...), w.led(all[:8]...), w.led(all[:8]...))
	wantFull(t, 400, none, w.led(all[:8]...), w.led(all[1:9]...))
	wantFull(t, 400, w.led(all[:7]...), w.led(all[:8]...), w.led(slices.Concat(all[:7], all[8:9])...))
	wantMerged(t, 400, w.led(all[:7]...), w.led(all[:8]...), w.led(slices.Concat(all[1:7], all[8:9])...), w.led(all[1:9]...))
	// Both unset one of eight, and set another.
	wantMerged(t, 400, w.led(all[:8]...), w.led(all[1:9]...), w.led(slices.Concat(all[:1], all[2:8], all[9:10])...), w.led(all[2:10]...))
}

// More than eight of which some lead to no object: those are left out ahead of the count.
func TestManyRootsThatLeadToNoObject(t *testing.T) {
	names := ledTo(1, "a", "b", "c", "d", "e", "f", "g", "h")
	base := four()
	wantMerged(t, 400, base, but(2).led(names...), base.led(ledTo(2, "i", "j", "k")...), but(2).led(names...))
	wantMerged(t, 400, base, base.led(ledTo(2, "a", "b", "c")...), but(2).led(ledTo(1, "d", "e", "f", "g", "h", "i", "j", "k")...), but(2).led(ledTo(1, "d", "e", "f", "g", "h", "i", "j", "k")...))
	wantMerged(t, 400, base, but(2).led(names[:7]...), base.led(leads("i2 j3 k2")...), but(2).led(names[:7]...).led(leads("j3")...))
	// Nine are left, though some are left out.
	wantFull(t, 400, base, but(2).led(names...), base.led(leads("i2 j3 k2")...))
	wantFull(t, 400, base, base.led(leads("i2 j3 k2")...), but(2).led(names...))
}

// Neither room nor roots: one error, and nothing beside it.
func TestFullOfBoth(t *testing.T) {
	one, other := thing{1, 0, text(60, 1)}, thing{2, 0, text(60, 2)}
	wantFull(t, 400, of(), of(one).led(ledTo(1, "a", "b", "c", "d", "e")...), of(other).led(ledTo(2, "f", "g", "h", "i")...))
}
