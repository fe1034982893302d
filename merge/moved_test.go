package merge_test

import (
	"bytes"
	"testing"
)

// wantMovedWorlds asks Moved of worlds, however each of them stands.
func wantMovedWorlds(t *testing.T, n int, a, b world, want ...int) {
	t.Helper()
	for x := range ways {
		for y := range ways {
			wantMoved(t, laid(t, n, a, x), laid(t, n, b, y), want...)
		}
	}
}

// lengths that images have, the smallest and the greatest among them.
var lengths = []int{288, 289, 320, 1287, 1288, 6399, 6400}

func TestNothingMoved(t *testing.T) {
	for _, n := range lengths {
		wantMoved(t, make([]byte, n), make([]byte, n))
		wantMoved(t, bare(n), make([]byte, n)) // bytes that nobody has are nobody's
	}
	for _, w := range []world{
		of(thing{1, 0, "a"}),
		of(thing{40, 15, "abc"}),
		of(thing{3, 2, "abc"}, thing{1, 2, "abc"}, thing{2, 2, "abc"}),
		of(thing{3, 2, "abc"}, thing{1, 0, "\x00\x00"}).led(lead{"main", 3}, lead{"b", 1}),
	} {
		wantMovedWorlds(t, 400, w, w)
		b := laid(t, 400, w, apart)
		wantMoved(t, b, b)
	}
}

func TestMovedTag(t *testing.T) {
	for _, tags := range [][2]int{{0, 1}, {0, 15}, {14, 15}, {7, 8}} {
		wantMovedWorlds(t, 400, of(thing{5, tags[0], "abc"}), of(thing{5, tags[1], "abc"}), 5)
	}
}

func TestMovedBytes(t *testing.T) {
	for _, body := range []string{"bbcde", "acccd", "abcdf", "edcba", "ABCDE", "\x00\x00\x00\x00\x00"} {
		wantMovedWorlds(t, 400, of(thing{5, 3, "abcde"}), of(thing{5, 3, body}), 5)
	}
	long := text(1000, 1)
	for _, i := range []int{0, 1, 255, 256, 998, 999} {
		other := []byte(long)
		other[i] ^= 128
		wantMovedWorlds(t, 1288, of(thing{40, 0, long}), of(thing{40, 0, string(other)}), 40)
	}
}

func TestMovedLength(t *testing.T) {
	for _, body := range []string{"a", "abcd", "abcdef", "abcde\x00", "bcde", "abcdeabcde"} {
		wantMovedWorlds(t, 400, of(thing{5, 3, "abcde"}), of(thing{5, 3, body}), 5)
	}
	wantMovedWorlds(t, 400, of(thing{5, 3, "\x00"}), of(thing{5, 3, "\x00\x00"}), 5)
	wantMovedWorlds(t, 1288, of(thing{5, 3, text(1000, 1)}), of(thing{5, 3, text(999, 1)}), 5)
}

func TestMovedToAndFromNone(t *testing.T) {
	for handle := 1; handle <= 40; handle++ {
		wantMovedWorlds(t, 400, of(), of(thing{handle, handle % 16, "abc"}), handle)
	}
	wantMovedWorlds(t, 400, of(), of(thing{9, 0, "\x00"}), 9) // an object whose bytes are 0 is one
	wantMovedWorlds(t, 289, of(), of(thing{9, 0, "\x00"}), 9)
	wantMovedWorlds(t, 400, of(thing{8, 1, "a"}), of(thing{8, 1, "a"}, thing{9, 1, "a"}), 9)
	wantMovedWorlds(t, 400, of(thing{8, 1, "a"}), of(thing{9, 1, "a"}), 8, 9)
}

// One that stands elsewhere, and is the same otherwise, was not moved.
func TestNotMovedElsewhere(t *testing.T) {
	o := thing{17, 4, "abcde"}
	one := at(bare(400), 288, o)
	for place := 288; place <= 395; place++ {
		wantMoved(t, one, at(bare(400), place, o))
	}
	two := at(at(bare(400), 300, thing{1, 0, "abc"}), 303, thing{2, 0, "abd"})
	exchanged := at(at(bare(400), 303, thing{1, 0, "abc"}), 300, thing{2, 0, "abd"})
	wantMoved(t, two, exchanged)
	// At the same place stands something else, and by handle nothing stays the same.
	wantMoved(t, two, at(at(bare(400), 300, thing{2, 0, "abc"}), 303, thing{1, 0, "abd"}), 1, 2)
}

// Roots are no objects.
func TestRootsAreNotMoved(t *testing.T) {
	w := of(thing{1, 1, "a"}, thing{2, 2, "bb"})
	for _, other := range []world{w.led(lead{"a", 1}), w.led(lead{"a", 2}), w.led(lead{"b", 2}, lead{"a", 1})} {
		wantMovedWorlds(t, 400, w, other)
		wantMovedWorlds(t, 400, w.led(lead{"a", 1}), other)
	}
	wantMovedWorlds(t, 400, w.led(lead{"a", 1}), of(thing{1, 1, "a"}).led(lead{"a", 1}), 2)
}

func TestSeveralMoved(t *testing.T) {
	a := of(thing{30, 1, "same"}, thing{20, 1, "tag"}, thing{3, 1, "bytes"}, thing{11, 1, "len"}, thing{40, 0, "dropped"})
	b := of(thing{20, 2, "tag"}, thing{1, 0, "new"}, thing{11, 1, "length"}, thing{3, 1, "setyb"}, thing{30, 1, "same"})
	wantMovedWorlds(t, 400, a, b, 1, 3, 11, 20, 40)
}

func TestAllFortyMoved(t *testing.T) {
	var all []int
	var one, other world
	for handle := 1; handle <= 40; handle++ {
		all = append(all, handle)
		one.things = append(one.things, thing{41 - handle, handle % 16, text(3, handle)})
		other.things = append(other.things, thing{handle, handle % 16, text(4, handle)})
	}
	wantMovedWorlds(t, 448, of(), one, all...)
	wantMovedWorlds(t, 448, one, other, all...)
	wantMovedWorlds(t, 448, one, one)
	wantMovedWorlds(t, 6400, one, other, all...)
	for i := range all {
		some := world{things: without(one.things, i)}
		wantMoved(t, laid(t, 448, one, apart), laid(t, 448, some, closeToEnd), one.things[i].handle)
	}
}

// without gives things without one of them.
func without(l []thing, i int) []thing {
	out := append([]thing(nil), l[:i]...)
	return append(out, l[i+1:]...)
}

// Each single byte that an object has counts, and no other one behind Head.
func TestMovedByteForByte(t *testing.T) {
	b := at(at(bare(320), 290, thing{4, 3, "abcde"}), 300, thing{2, 9, "xyz"})
	for i := 288; i < 320; i++ {
		other := bytes.Clone(b)
		other[i]++
		switch {
		case 290 <= i && i < 295:
			wantMoved(t, b, other, 4)
		case 300 <= i && i < 303:
			wantMoved(t, b, other, 2)
		default:
			wantMoved(t, b, other)
		}
	}
}
