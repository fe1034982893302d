package merge_test

import (
	"bytes"
	"fmt"
	"math/rand"
	"slices"
	"strings"
	"testing"

	"vaultkeel/api"
	"vaultkeel/check"
	"vaultkeel/heap"
	"vaultkeel/merge"
	"vaultkeel/move"
	"vaultkeel/plain"
	"vaultkeel/stat"
)

// facts are what an image says, read by hand: of each handle a tag and bytes as one text (empty: none), and who leads where.
type facts struct {
	objects [41]string
	roots   map[string]int
}

func factsOf(b []byte) facts {
	f := facts{roots: map[string]int{}}
	for handle := 1; handle <= 40; handle++ {
		row := b[5*(handle-1):]
		if row[0] == 0 {
			continue
		}
		at, size := int(row[1])+256*int(row[2]), int(row[3])+256*int(row[4])
		f.objects[handle] = string(row[:1]) + string(b[at:at+size])
	}
	for i := range 8 {
		row := b[200+11*i : 211+11*i]
		if name := strings.TrimRight(string(row[:8]), "\x00"); name != "" {
			f.roots[name] = int(row[10])
		}
	}
	return f
}

// shown tells what an image says, for people.
func shown(b []byte) string {
	if len(b) < 288 {
		return fmt.Sprintf("%d bytes", len(b))
	}
	f := factsOf(b)
	s := fmt.Sprintf("%d bytes:", len(b))
	for handle, o := range f.objects {
		if o != "" {
			s += fmt.Sprintf(" %d: tag %d at %d %.20q;", handle, o[0]-1, int(b[5*(handle-1)+1])+256*int(b[5*(handle-1)+2]), o[1:])
		}
	}
	return s + fmt.Sprint(" roots ", f.roots)
}

// picked gives what is left of three, and whether both made something else of it: written out as the table that it is.
func picked[V comparable](base, a, b V) (V, bool) {
	switch {
	case a == base && b == base:
		return base, false
	case a != base && b == base:
		return a, false
	case a == base && b != base:
		return b, false
	case a == b:
		return a, false
	}
	return a, true
}

// movedOf tells by hand what was moved.
func movedOf(a, b []byte) []int {
	var l []int
	x, y := factsOf(a), factsOf(b)
	for handle := range x.objects {
		if x.objects[handle] != y.objects[handle] {
			l = append(l, handle)
		}
	}
	return l
}

// outcome is what the model says of three images.
type outcome struct {
	image             []byte
	told              []int
	noRoom, manyRoots bool
	leftOut           int
}

// threeOf merges by hand.
func threeOf(base, a, b []byte) outcome {
	var out outcome
	was, one, other := factsOf(base), factsOf(a), factsOf(b)
	now := facts{roots: map[string]int{}}
	size := 0
	for handle := range was.objects {
		o, isTold := picked(was.objects[handle], one.objects[handle], other.objects[handle])
		if isTold {
			out.told = append(out.told, handle)
		}
		now.objects[handle] = o
		size += max(0, len(o)-1)
	}
	for _, f := range []facts{was, one, other} {
		for name := range f.roots {
			handle, _ := picked(was.roots[name], one.roots[name], other.roots[name])
			if handle != 0 {
				now.roots[name] = handle
			}
		}
	}
	for name, handle := range now.roots {
		if now.objects[handle] == "" {
			delete(now.roots, name)
			out.leftOut++
		}
	}
	out.noRoom, out.manyRoots = size > len(base)-288, len(now.roots) > 8
	if out.noRoom || out.manyRoots {
		out.told = nil
		return out
	}
	out.image = written(len(base), now)
	return out
}

// written gives the image of what is said, by hand.
func written(n int, f facts) []byte {
	var rows, names, bodies []byte
	for _, o := range f.objects[1:] {
		if o == "" {
			rows = append(rows, 0, 0, 0, 0, 0)
			continue
		}
		at, size := 288+len(bodies), len(o)-1
		rows = append(rows, o[0], byte(at%256), byte(at/256), byte(size%256), byte(size/256))
		bodies = append(bodies, o[1:]...)
	}
	var sorted []string
	for name := range f.roots {
		sorted = append(sorted, name)
	}
	slices.Sort(sorted)
	for _, name := range sorted {
		row := make([]byte, 11)
		copy(row, name)
		row[10] = byte(f.roots[name])
		names = append(names, row...)
	}
	names = append(names, make([]byte, 88-len(names))...)
	out := slices.Concat(rows, names, bodies)
	return append(out, make([]byte, n-len(out))...)
}

// asModel asks Moved and Three of three images, and holds them against what is merged by hand.
func asModel(t *testing.T, base, a, b []byte) outcome {
	t.Helper()
	for _, two := range [][2][]byte{{base, a}, {base, b}, {a, b}} {
		if l, err := merge.Moved(two[0], two[1]); err != nil || !slices.Equal(l, movedOf(two[0], two[1])) {
			t.Fatalf("Moved of %s and %s: got %v, %v", shown(two[0]), shown(two[1]), l, err)
		}
	}
	want := threeOf(base, a, b)
	told := api.OK
	if want.noRoom || want.manyRoots {
		told = api.ErrFull
	}
	out, l, err := merge.Three(base, a, b)
	if plain.Told(err) != told || !slices.Equal(l, want.told) || !bytes.Equal(out, want.image) {
		t.Fatalf("Three of %s and %s from %s: got %s, %v, %v; want %s, %v, %v", shown(a), shown(b), shown(base), shown(out), l, err, shown(want.image), want.told, told)
	}
	return want
}

// wantLaws asks what must be true of whatever was merged.
func wantLaws(t *testing.T, base, a, b []byte) {
	t.Helper()
	out, told, err := merge.Three(base, a, b)
	turned, again, turnedErr := merge.Three(base, b, a)
	if !slices.Equal(told, again) && err == nil && turnedErr == nil {
		t.Fatalf("Three tells %v, and turned round %v", told, again)
	}
	if err == nil && turnedErr == nil {
		wantOnlyTold(t, out, turned, told)
	}
	for _, c := range [][4][]byte{{base, a, base, a}, {base, base, b, b}, {base, a, a, a}, {base, b, b, b}, {a, a, a, a}} {
		got, l, err := merge.Three(c[0], c[1], c[2])
		if err != nil || len(l) > 0 {
			t.Fatalf("Three where nothing clashes: %v, %v", l, err)
		}
		if same, err := check.Same(got, c[3]); !same || err != nil {
			t.Fatalf("Three where one alone has changed: got %s, %v; want as %s", shown(got), err, shown(c[3]))
		}
	}
	if err == nil {
		wantCloseTogether(t, out)
	}
}

// wantOnlyTold asks that two have the same objects, but for those that were told.
func wantOnlyTold(t *testing.T, out, turned []byte, told []int) {
	t.Helper()
	l, err := merge.Moved(out, turned)
	if err != nil || !slices.Equal(l, told) {
		t.Fatalf("turned round %v are others, %v; %v were told", l, err, told)
	}
}

// wantCloseTogether asks that an image is right, and that All would leave it as it is.
func wantCloseTogether(t *testing.T, b []byte) {
	t.Helper()
	h, err := heap.Load(b)
	if err != nil {
		t.Fatalf("Load of what was merged: %v", err)
	}
	if n, err := move.All(h); n != 0 || err != nil || !bytes.Equal(h.Bytes(), b) {
		t.Fatalf("All of what was merged: %d steps, %v", n, err)
	}
	if s, err := stat.Heap(h); s.Runs > 1 || s.Free != s.Most || err != nil {
		t.Fatalf("what is free is not one run: %+v, %v", s, err)
	}
}

// everyWorld gives all worlds of two handles, each none or one of three objects, and of one name, which leads nowhere or to one of them.
func everyWorld() []world {
	var l []world
	kinds := []thing{{}, {0, 1, "x"}, {0, 2, "x"}, {0, 1, "yy"}}
	for _, one := range kinds {
		for _, other := range kinds {
			w := world{}
			if one.body != "" {
				w.things = append(w.things, thing{1, one.tag, one.body})
			}
			if other.body != "" {
				w.things = append(w.things, thing{2, other.tag, other.body})
			}
			l = append(l, w)
			for _, o := range w.things {
				l = append(l, w.led(lead{"main", o.handle}))
			}
		}
	}
	return l
}

func TestEveryThreeSmallWorlds(t *testing.T) {
	var images [][]byte
	for i, w := range everyWorld() {
		images = append(images, laid(t, 292, w, i%ways))
	}
	seen := map[string]int{}
	for _, base := range images {
		for _, a := range images {
			for _, b := range images {
				seen[kindOf(asModel(t, base, a, b))]++
			}
		}
	}
	if len(images) != 40 || seen["told"] == 0 || seen["left out"] == 0 || seen["plain"] == 0 {
		t.Errorf("of %d images there came %v", len(images), seen)
	}
}

// kindOf tells what an outcome shows first.
func kindOf(out outcome) string {
	switch {
	case out.noRoom && out.manyRoots:
		return "both"
	case out.noRoom:
		return "no room"
	case out.manyRoots:
		return "many roots"
	case out.leftOut > 0:
		return "left out"
	case len(out.told) > 0:
		return "told"
	}
	return "plain"
}

// drawing is a world that is changed, one thing at a time, at random, and never has more than its image has room for.
type drawing struct {
	r      *rand.Rand
	n      int
	names  int // of how many names roots are drawn
	most   int // bytes of an object
	things map[int]thing
	leads  map[string]int
}

func (d *drawing) copied() *drawing {
	out := *d
	out.things, out.leads = map[int]thing{}, map[string]int{}
	for handle, o := range d.things {
		out.things[handle] = o
	}
	for name, handle := range d.leads {
		out.leads[name] = handle
	}
	return &out
}

func (d *drawing) size() int {
	n := 0
	for _, o := range d.things {
		n += len(o.body)
	}
	return n
}

// draw makes one handle have another object, or none; or one name lead elsewhere, or nowhere.
func (d *drawing) draw(handles int) {
	handle, name := 1+d.r.Intn(handles), rootName(d.r.Intn(d.names))
	switch d.r.Intn(9) {
	case 0:
		delete(d.things, handle)
		for name, to := range d.leads {
			if to == handle {
				delete(d.leads, name)
			}
		}
	case 1, 2, 3, 4:
		room := d.n - 288 - d.size() + len(d.things[handle].body)
		if room > 0 { // one for which there is none has all that is left
			d.things[handle] = thing{handle, d.r.Intn(16), text(min(room, 1+d.r.Intn(d.most)), d.r.Intn(3))}
		}
	case 5:
		if o := d.things[handle]; o.body != "" {
			d.things[handle] = thing{handle, d.r.Intn(3), o.body}
		}
	case 6, 7:
		_, isThere := d.things[handle]
		if _, is := d.leads[name]; isThere && (is || len(d.leads) < 8) {
			d.leads[name] = handle
		}
	case 8:
		delete(d.leads, name)
	}
}

// rootName gives the i-th of many names.
func rootName(i int) string { return strings.Repeat(string(rune('a'+i%26)), 1+i%8) }

// laid gives an image of what is drawn, in one of the ways, its objects and roots in a drawn order.
func (d *drawing) laid(t *testing.T) []byte {
	t.Helper()
	w := world{}
	for handle := 1; handle <= 40; handle++ {
		if o, is := d.things[handle]; is {
			w.things = append(w.things, o)
		}
	}
	for i := range d.names {
		if handle, is := d.leads[rootName(i)]; is {
			w.leads = append(w.leads, lead{rootName(i), handle})
		}
	}
	d.r.Shuffle(len(w.things), func(i, j int) { w.things[i], w.things[j] = w.things[j], w.things[i] })
	d.r.Shuffle(len(w.leads), func(i, j int) { w.leads[i], w.leads[j] = w.leads[j], w.leads[i] })
	return laid(t, d.n, w, d.r.Intn(ways))
}

// drawnThree gives three images, two of which came from the first one by so many drawn changes each.
func drawnThree(t *testing.T, r *rand.Rand, n, handles, names, most, changes int) (base, a, b []byte) {
	t.Helper()
	d := &drawing{r: r, n: n, names: names, most: most, things: map[int]thing{}, leads: map[string]int{}}
	for range 4 * handles {
		d.draw(handles)
	}
	one, other := d.copied(), d.copied()
	for range changes {
		one.draw(handles)
		other.draw(handles)
	}
	return d.laid(t), one.laid(t), other.laid(t)
}

func TestDrawnThree(t *testing.T) {
	r := rand.New(rand.NewSource(19))
	seen := map[string]int{}
	for range 300 {
		for _, c := range [][5]int{ // bytes, handles, names, bytes of an object, changes
			{320, 4, 4, 8, 3},
			{400, 6, 12, 20, 8},
			{400, 14, 20, 20, 30},
			{340, 14, 12, 9, 9},
			{1000, 40, 9, 30, 10},
			{1000, 40, 26, 10, 60},
			{288 + r.Intn(10), 3, 3, 3, 4},
			{6400, 40, 16, 300, 20},
			{6399, 20, 10, 1000, 9},
		} {
			base, a, b := drawnThree(t, r, c[0], c[1], c[2], c[3], r.Intn(c[4]+1))
			seen[kindOf(asModel(t, base, a, b))]++
			wantLaws(t, base, a, b)
		}
	}
	for _, kind := range []string{"no room", "many roots", "both", "left out", "told", "plain"} {
		if seen[kind] < 10 {
			t.Errorf("%q came %d times: what is drawn does not ask enough: %v", kind, seen[kind], seen)
		}
	}
}
