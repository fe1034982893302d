package merge_test

import (
	"bytes"
	"testing"

	"vaultkeel/api"
	"vaultkeel/check"
	"vaultkeel/heap"
	"vaultkeel/image"
	"vaultkeel/merge"
	"vaultkeel/move"
	"vaultkeel/root"
	"vaultkeel/stat"
)

// A whole image, byte by byte.
func TestAsItStands(t *testing.T) {
	base := at(at(bare(320), 310, thing{2, 0, "two"}), 300, thing{40, 15, "last"})
	a := at(base, 290, thing{9, 7, "nine"})
	a = rooted(a, 5, lead{"nine", 9})
	b := at(base, 316, thing{1, 1, "one"})
	b = rooted(rooted(b, 7, lead{"b", 1}), 0, lead{"main", 40})
	want := make([]byte, 320)
	copy(want[0:], []byte{2, 32, 1, 3, 0})
	copy(want[5:], []byte{1, 35, 1, 3, 0})
	copy(want[40:], []byte{8, 38, 1, 4, 0})
	copy(want[195:], []byte{16, 42, 1, 4, 0})
	copy(want[200:], []byte{'b', 0, 0, 0, 0, 0, 0, 0, 0, 0, 1})
	copy(want[211:], []byte{'m', 'a', 'i', 'n', 0, 0, 0, 0, 0, 0, 40})
	copy(want[222:], []byte{'n', 'i', 'n', 'e', 0, 0, 0, 0, 0, 0, 9})
	copy(want[288:], "onetwoninelast")
	wantThree(t, base, a, b, want)
	wantThree(t, base, b, a, want)
}

// Objects stand by handle, in whatever order they stood, also where nobody changed anything.
func TestObjectsStandByHandle(t *testing.T) {
	sorted := of(thing{3, 1, text(9, 1)}, thing{11, 2, text(1, 2)}, thing{12, 3, text(30, 3)}, thing{39, 4, text(2, 4)}, thing{40, 5, text(7, 5)})
	for _, order := range [][]int{{0, 1, 2, 3, 4}, {4, 3, 2, 1, 0}, {2, 0, 4, 1, 3}, {1, 4, 0, 3, 2}} {
		var w world
		for _, i := range order {
			w.things = append(w.things, sorted.things[i])
		}
		wantMerged(t, 400, w, w, w, sorted)
		wantMerged(t, 400, of(), w, w, sorted)
		wantMerged(t, 400, w, w, of(), of())
	}
}

// Where each of them stands, told one by one.
func TestOneBehindTheOtherFromHeadOn(t *testing.T) {
	base := laid(t, 400, of(thing{30, 1, text(11, 1)}, thing{4, 1, text(5, 1)}), apart)
	a := laid(t, 400, of(thing{4, 1, text(6, 1)}, thing{30, 1, text(11, 1)}, thing{7, 0, text(1, 1)}), closeToEnd)
	b := laid(t, 400, of(thing{30, 1, text(12, 1)}, thing{4, 1, text(5, 1)}, thing{1, 0, text(40, 1)}), apart)
	out, _, err := merge.Three(base, a, b)
	if err != nil {
		t.Fatal(err)
	}
	l, err := image.Entries(out)
	if err != nil || len(l) != 4 {
		t.Fatalf("Entries: %v, %v", l, err)
	}
	for i, want := range []api.Extent{{At: 288, Len: 40}, {At: 328, Len: 6}, {At: 334, Len: 1}, {At: 335, Len: 12}} {
		if l[i].Extent != want {
			t.Errorf("%d stands at %v; want %v", l[i].Handle, l[i].Extent, want)
		}
	}
}

// What is free is one run behind all objects, and is 0, whatever stood there.
func TestFreeIsOneRunBehind(t *testing.T) {
	base := laid(t, 400, of(left, x, right), apart)
	a := laid(t, 400, of(right, x), closeToEnd)
	b := laid(t, 400, of(u, left, right), apart)
	out, told, err := merge.Three(base, a, b)
	if err != nil || len(told) > 0 {
		t.Fatalf("Three: %v, %v", told, err)
	}
	h, err := heap.Load(out)
	if err != nil {
		t.Fatal(err)
	}
	used := len(u.body) + len(right.body)
	if s, err := stat.Heap(h); err != nil || s != (api.Stat{Objects: 2, Used: used, Free: 112 - used, Most: 112 - used, Runs: 1}) {
		t.Errorf("Heap: %+v, %v", s, err)
	}
	if behind := out[288+used:]; !bytes.Equal(behind, make([]byte, len(behind))) {
		t.Errorf("behind all objects stands %v", behind)
	}
	wantCloseTogether(t, out)
}

// The handles that were freed, and the places that have no root, have zeros alone.
func TestNothingIsLeftOfWhatIsNone(t *testing.T) {
	base := laid(t, 400, four().led(leads("a1 b2 c3")...), apart)
	a := laid(t, 400, of(four().things[0]).led(leads("a1")...), closeToEnd)
	b := laid(t, 400, of(), apart)
	want := stood(t, 400, of())
	wantThree(t, base, b, a, want)
	wantThree(t, base, a, b, want)
	wantThree(t, base, b, base, want)
	wantThree(t, base, base, b, want)
}

// alloc gives a new object of a Heap these bytes.
func alloc(t *testing.T, h *heap.Heap, tag int, body string) int {
	t.Helper()
	handle, err := h.Alloc(len(body), tag)
	if err != nil {
		t.Fatal(err)
	}
	if err := h.Write(handle, 0, []byte(body)); err != nil {
		t.Fatal(err)
	}
	return handle
}

func load(t *testing.T, b []byte) *heap.Heap {
	t.Helper()
	h, err := heap.Load(b)
	if err != nil {
		t.Fatal(err)
	}
	return h
}

// leadTo makes a root lead, and asks that there is room for it.
func leadTo(t *testing.T, h *heap.Heap, name string, handle int) {
	t.Helper()
	if _, err := root.Set(h, name, handle); err != nil {
		t.Fatal(err)
	}
}

// Two Heaps that came from one go their own ways, and come together again.
func TestTwoHeapsOfOne(t *testing.T) {
	h := load(t, make([]byte, 400))
	one, two := alloc(t, h, 1, "one"), alloc(t, h, 2, "two")
	leadTo(t, h, "main", one)
	base := h.Bytes()

	a, b := load(t, base), load(t, base)
	if err := a.Write(one, 0, []byte("ONE")); err != nil {
		t.Fatal(err)
	}
	three := alloc(t, a, 3, "three")
	leadTo(t, a, "a", three)
	if err := b.Free(two); err != nil {
		t.Fatal(err)
	}
	if _, err := move.All(b); err != nil {
		t.Fatal(err)
	}
	leadTo(t, b, "b", one)

	out, told, err := merge.Three(base, a.Bytes(), b.Bytes())
	if err != nil || len(told) > 0 {
		t.Fatalf("Three: %v, %v", told, err)
	}
	want := of(thing{one, 1, "ONE"}, thing{three, 3, "three"}).led(lead{"a", three}, lead{"b", one}, lead{"main", one})
	if !bytes.Equal(out, stood(t, 400, want)) {
		t.Errorf("Three: got %s", shown(out))
	}
	// What was merged goes on as a Heap, and its handle that is none is given anew.
	next := load(t, out)
	if got := alloc(t, next, 0, "two"); got != two {
		t.Errorf("Alloc behind Three: got %d; want %d", got, two)
	}
	if got, err := root.Get(next, "a", 3); got != three || err != nil {
		t.Errorf("Get behind Three: got %d, %v; want %d", got, err, three)
	}
}

// To merge once more what is in already changes nothing.
func TestMergedOnceMore(t *testing.T) {
	base := laid(t, 400, four().led(leads("a1 b2")...), apart)
	a := laid(t, 400, but(3).led(leads("a1 b4")...), closeToEnd)
	b := laid(t, 400, but(1).led(leads("b2 c3")...), apart)
	out, told, err := merge.Three(base, a, b)
	if err != nil || len(told) > 0 {
		t.Fatalf("Three: %v, %v", told, err)
	}
	want := of(four().things[1], four().things[3]).led(leads("b4")...)
	if !bytes.Equal(out, stood(t, 400, want)) {
		t.Fatalf("Three: got %s", shown(out))
	}
	wantThree(t, base, out, a, out)
	wantThree(t, a, out, a, out)
	wantThree(t, b, b, out, out)
	wantThree(t, out, out, out, out)
	if same, err := check.Same(out, stood(t, 400, want)); !same || err != nil {
		t.Errorf("Same: got %v, %v", same, err)
	}
}
