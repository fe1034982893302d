package merge_test

import (
	"bytes"
	"slices"
	"strings"
	"testing"

	"vaultkeel/api"
	"vaultkeel/check"
	"vaultkeel/merge"
	"vaultkeel/plain"
)

// thing is an object, wherever it stands.
type thing struct {
	handle, tag int
	body        string
}

// lead is a root, at whatever place.
type lead struct {
	name   string
	handle int
}

// world is what an image has; where it stands is another matter.
type world struct {
	things []thing
	leads  []lead
}

func of(things ...thing) world { return world{things: things} }

// led gives a world with these roots, too.
func (w world) led(leads ...lead) world {
	return world{things: w.things, leads: slices.Concat(w.leads, leads)}
}

// rootNames are as many as there may be roots, of one letter up to eight, the last of the alphabet first.
var rootNames = []string{"h", "gg", "fff", "eeee", "ddddd", "cccccc", "bbbbbbb", "aeightle"}

// at gives an image of b's length with an object at a place.
func at(b []byte, place int, o thing) []byte {
	out := bytes.Clone(b)
	size := len(o.body)
	copy(out[5*(o.handle-1):], []byte{byte(o.tag + 1), byte(place % 256), byte(place / 256), byte(size % 256), byte(size / 256)})
	copy(out[place:], o.body)
	return out
}

// rooted gives an image with a root at a place.
func rooted(b []byte, i int, r lead) []byte {
	out := bytes.Clone(b)
	copy(out[200+11*i:211+11*i], make([]byte, 11))
	copy(out[200+11*i:], r.name)
	out[210+11*i] = byte(r.handle)
	return out
}

// bare gives an image of n bytes with nothing in it, but for bytes that nobody has.
func bare(n int) []byte {
	b := make([]byte, n)
	for i := 288; i < n; i++ {
		b[i] = byte(1 + i*37%255)
	}
	return b
}

// ways in which a world may stand in an image.
const (
	closeToHead = iota // one behind the other, as they are listed
	closeToEnd         // one ahead of the other, the first the last
	apart              // as closeToHead, with what is free shared out ahead of each
	ways
)

// laid gives an image of n bytes with a world that stands in one of the ways.
func laid(t *testing.T, n int, w world, way int) []byte {
	t.Helper()
	size := 0
	for _, o := range w.things {
		size += len(o.body)
	}
	free := n - 288 - size
	if free < 0 {
		t.Fatalf("the objects have %d bytes, of %d", size, n-288)
	}
	gap := 0
	if way == apart {
		gap = free / max(1, len(w.things))
	}
	b := bare(n)
	front, end := 288, n
	for _, o := range w.things {
		end -= len(o.body)
		front += gap
		place := front
		if way == closeToEnd {
			place = end
		}
		b = at(b, place, o)
		front += len(o.body)
	}
	for i, r := range w.leads {
		place := i
		if way != closeToHead {
			place = (7 - i*3%8) % 8
		}
		b = rooted(b, place, r)
	}
	if l, err := check.Check(b); len(l) > 0 || err != nil {
		t.Fatalf("an image is not right: %v, %v", l, err)
	}
	return b
}

// stood gives the image in which a world must stand: as it is listed, one behind the other, and all else is 0.
func stood(t *testing.T, n int, w world) []byte {
	t.Helper()
	if !slices.IsSortedFunc(w.things, func(x, y thing) int { return x.handle - y.handle }) {
		t.Fatal("objects are not listed by handle")
	}
	if !slices.IsSortedFunc(w.leads, func(x, y lead) int { return strings.Compare(x.name, y.name) }) {
		t.Fatal("roots are not listed by name")
	}
	b := make([]byte, n)
	place := 288
	for _, o := range w.things {
		b = at(b, place, o)
		place += len(o.body)
	}
	for i, r := range w.leads {
		b = rooted(b, i, r)
	}
	return b
}

// text gives n letters, others for each seed.
func text(n, seed int) string {
	b := make([]byte, n)
	for i := range b {
		b[i] = byte('a' + (i*7+i/26+seed*11)%26)
	}
	return string(b)
}

// around gives b as a part of a greater list, so that what is read or written about it is told.
func around(b []byte) (part, whole []byte) {
	odd := bytes.Repeat([]byte{201}, 300)
	whole = slices.Concat(odd, b, odd)
	return whole[len(odd) : len(odd)+len(b)], whole
}

// given are images as parts of greater lists.
type given struct{ parts, wholes, before [][]byte }

func give(images ...[]byte) given {
	var g given
	for _, b := range images {
		part, whole := around(b)
		g.parts, g.wholes, g.before = append(g.parts, part), append(g.wholes, whole), append(g.before, bytes.Clone(whole))
	}
	return g
}

// same asks that nothing is written into what was given.
func (g given) same(t *testing.T, what string) {
	t.Helper()
	for i := range g.wholes {
		if !bytes.Equal(g.wholes[i], g.before[i]) {
			t.Fatalf("%s wrote into what it was given as number %d", what, i)
		}
	}
}

// spoil writes over all that was given.
func (g given) spoil() {
	for _, whole := range g.wholes {
		fill(whole, 98)
	}
}

func fill(b []byte, c byte) {
	for i := range b {
		b[i] = c
	}
}

// wantMoved asks Moved of two images, either way round: what it tells is fresh.
func wantMoved(t *testing.T, a, b []byte, want ...int) {
	t.Helper()
	for _, images := range [][][]byte{{a, b}, {b, a}} {
		g := give(images...)
		first, err := merge.Moved(g.parts[0], g.parts[1])
		if !slices.Equal(first, want) || err != nil {
			t.Fatalf("Moved: got %v, %v; want %v", first, err, want)
		}
		second, _ := merge.Moved(g.parts[0], g.parts[1])
		g.same(t, "Moved")
		clear(first[:cap(first)])
		g.same(t, "writing into what Moved told")
		g.spoil()
		if !slices.Equal(second, want) {
			t.Fatalf("Moved: two answers share memory: %v", second)
		}
	}
}

// wantThree asks Three for an image, byte for byte, and for what it tells: both are fresh.
func wantThree(t *testing.T, base, a, b, want []byte, told ...int) {
	t.Helper()
	g := give(base, a, b)
	first, l, err := merge.Three(g.parts[0], g.parts[1], g.parts[2])
	if err != nil || !slices.Equal(l, told) {
		t.Fatalf("Three: got %v, %v; want %v", l, err, told)
	}
	if !bytes.Equal(first, want) {
		t.Fatalf("Three: got %s; want %s", shown(first), shown(want))
	}
	second, k, _ := merge.Three(g.parts[0], g.parts[1], g.parts[2])
	g.same(t, "Three")
	fill(first[:cap(first)], 99)
	clear(l[:cap(l)])
	g.same(t, "writing into what Three gave")
	g.spoil()
	if !bytes.Equal(second, want) || !slices.Equal(k, told) {
		t.Fatal("Three: two answers share memory, or share some with what was given")
	}
}

// wantMerged asks Three of worlds, however each of them stands.
func wantMerged(t *testing.T, n int, base, a, b, want world, told ...int) {
	t.Helper()
	expected := stood(t, n, want)
	for x := range ways {
		for y := range ways {
			for z := range ways {
				wantThree(t, laid(t, n, base, x), laid(t, n, a, y), laid(t, n, b, z), expected, told...)
			}
		}
	}
}

// wantNoMoved asks Moved for an error, either way round, and nothing beside it.
func wantNoMoved(t *testing.T, a, b []byte, want api.Errno) {
	t.Helper()
	for _, images := range [][][]byte{{a, b}, {b, a}} {
		g := give(images...)
		if l, err := merge.Moved(g.parts[0], g.parts[1]); len(l) > 0 || plain.Told(err) != want {
			t.Errorf("Moved of %d and %d bytes: got %v, %v; want %v", len(images[0]), len(images[1]), l, err, want)
		}
		g.same(t, "Moved")
	}
}

// wantNoThree asks Three for an error, and nothing beside it.
func wantNoThree(t *testing.T, base, a, b []byte, want api.Errno) {
	t.Helper()
	g := give(base, a, b)
	if out, l, err := merge.Three(g.parts[0], g.parts[1], g.parts[2]); len(out) > 0 || len(l) > 0 || plain.Told(err) != want {
		t.Errorf("Three of %d, %d and %d bytes: got %d bytes, %v, %v; want %v", len(base), len(a), len(b), len(out), l, err, want)
	}
	g.same(t, "Three")
}

// wantNoWay asks Three for an error in whichever order the three are given.
func wantNoWay(t *testing.T, one, two, three []byte, want api.Errno) {
	t.Helper()
	wantNoThree(t, one, two, three, want)
	wantNoThree(t, one, three, two, want)
	wantNoThree(t, two, one, three, want)
	wantNoThree(t, two, three, one, want)
	wantNoThree(t, three, one, two, want)
	wantNoThree(t, three, two, one, want)
}

// wantFull asks for ErrFull of worlds, however each of them stands, and whichever of the two comes first.
func wantFull(t *testing.T, n int, base, a, b world) {
	t.Helper()
	for x := range ways {
		for y := range ways {
			wantNoThree(t, laid(t, n, base, x), laid(t, n, a, y), laid(t, n, b, x), api.ErrFull)
			wantNoThree(t, laid(t, n, base, y), laid(t, n, b, x), laid(t, n, a, y), api.ErrFull)
		}
	}
}

// The images that are laid for these tests are what they are said to be.
func TestLaid(t *testing.T) {
	w := of(thing{7, 3, "abc"}, thing{2, 0, "de"}).led(lead{"main", 2}, lead{"b", 7})
	for way, places := range [][2]int{{288, 291}, {305, 303}, {295, 305}} {
		b := laid(t, 308, w, way)
		for i, o := range w.things {
			if got := b[places[i]:][:len(o.body)]; string(got) != o.body {
				t.Errorf("way %d: at %d stands %q; want %q", way, places[i], got, o.body)
			}
			row := []byte{byte(o.tag + 1), byte(places[i] - 256), 1, byte(len(o.body)), 0}
			if got := b[5*(o.handle-1):][:5]; !bytes.Equal(got, row) {
				t.Errorf("way %d: the bytes of %d are %v; want %v", way, o.handle, got, row)
			}
		}
	}
	want := make([]byte, 308)
	copy(want[5:], []byte{1, 32, 1, 2, 0})
	copy(want[30:], []byte{4, 34, 1, 3, 0})
	copy(want[200:], "b\x00\x00\x00\x00\x00\x00\x00\x00\x00\x07main\x00\x00\x00\x00\x00\x00\x02")
	copy(want[288:], "deabc")
	sorted := of(thing{2, 0, "de"}, thing{7, 3, "abc"}).led(lead{"b", 7}, lead{"main", 2})
	if got := stood(t, 308, sorted); !bytes.Equal(got, want) {
		t.Errorf("stood: got %s; want %s", shown(got), shown(want))
	}
}
