package root_test

import (
	"bytes"
	"testing"

	"vaultkeel/api"
	"vaultkeel/heap"
	"vaultkeel/plain"
	"vaultkeel/root"
	"vaultkeel/undo"
)

// A Heap that New made, with objects of its own: the image is told here byte for byte.
func TestTheImageByteForByte(t *testing.T) {
	h, err := heap.New(400)
	if err != nil {
		t.Fatal(err)
	}
	for _, n := range []int{3, 5} {
		if _, err := h.Alloc(n, 2); err != nil {
			t.Fatal(err)
		}
	}
	want := make([]byte, 400)
	copy(want, []byte{3, 32, 1, 3, 0, 3, 35, 1, 5, 0})
	s := &bench{t: t, heap: h, now: want}
	s.want("Alloc")
	s.set("main", 2, 0, true)
	copy(want[200:], []byte{'m', 'a', 'i', 'n', 0, 0, 0, 0, 0, 0, 2})
	s.same(want)
	s.set("eightlet", 1, 1, true)
	copy(want[211:], []byte{'e', 'i', 'g', 'h', 't', 'l', 'e', 't', 0, 0, 1})
	s.same(want)
	s.set("main", 1, 0, false)
	want[210] = 1
	s.same(want)
	s.unset("main", 0)
	clear(want[200:211])
	s.same(want)
	s.set("a", 2, 0, true)
	copy(want[200:], []byte{'a', 0, 0, 0, 0, 0, 0, 0, 0, 0, 2})
	s.same(want)
}

func (s *bench) same(want []byte) {
	s.t.Helper()
	if got := s.heap.Bytes(); !bytes.Equal(got, want) {
		s.t.Errorf("the image is another one: %v", got[:288])
	}
}

func TestWhoeverHoldsTheHeapSeesTheRoot(t *testing.T) {
	s := benchOf(t, some())
	held := s.heap
	s.set("main", 7, 0, true)
	if got, err := root.Get(held, "main", 15); got != 7 || err != nil {
		t.Errorf("Get: got %d, %v; want 7", got, err)
	}
	if err := held.Free(7); plain.Told(err) != api.ErrClash {
		t.Errorf("Free: got %v; want ErrClash", err)
	}
	if err := root.Unset(held, "main"); err != nil {
		t.Errorf("Unset: %v", err)
	}
	s.now = lead(s.now, 0, "", 0)
	s.want("Unset by another one who holds it")
	s.free(7)
}

// What the objects have is read as ahead, and may be written as ahead.
func TestObjectsStayAsTheyAre(t *testing.T) {
	s := benchOf(t, some())
	b := some()
	s.set("main", 7, 0, true)
	s.set("main", 2, 0, false)
	s.unset("main", 0)
	s.set("b", 40, 0, true)
	for _, o := range []struct{ handle, tag, at, size int }{{1, 9, 329, 1}, {2, 0, 330, 20}, {7, 15, 289, 40}, {40, 4, 351, 49}} {
		got, err := s.heap.Read(o.handle, 0, o.size)
		if err != nil || !bytes.Equal(got, b[o.at:o.at+o.size]) {
			t.Errorf("Read(%d): got %v, %v", o.handle, got, err)
		}
		if tag, err := s.heap.Tag(o.handle); tag != o.tag || err != nil {
			t.Errorf("Tag(%d): got %d, %v; want %d", o.handle, tag, err, o.tag)
		}
	}
	if err := s.heap.Write(7, 39, []byte{250}); err != nil {
		t.Errorf("Write: %v", err)
	}
	s.now[328] = 250
	s.want("Write")
}

func TestAHeapThatWasLoadedHasItsRoots(t *testing.T) {
	s := benchOf(t, full())
	s.unset("gg", 1)
	s.set("new", 3, 1, true)
	twin := benchOf(t, s.heap.Bytes())
	twin.get("new", 3, 3)
	twin.get("eightlet", 5, 5)
	twin.noGet("gg", -1, api.ErrNone)
	twin.noFree(3)
	twin.unset("new", 1)
	s.want("Unset in another one") // each has roots of its own
	s.get("new", 3, 3)
	s.unset("h", 0)
	twin.want("Unset in another one")
	twin.get("h", -1, 40)
}

func TestUndoBringsTheRootsBack(t *testing.T) {
	s := benchOf(t, led())
	u := undo.New(s.heap)
	first := u.Mark()
	s.set("new", 7, 0, true)
	second := u.Mark()
	l, err := u.Changes(first)
	if err != nil || len(l) != 2 || l[0].At != 200 || string(l[0].New) != "new" || l[1].At != 210 || l[1].New[0] != 7 {
		t.Errorf("Changes: got %v, %v; want those of the root alone", l, err)
	}
	s.set("main", 2, 1, false)
	s.unset("b", 6)
	s.unset("new", 0)
	s.free(40)
	s.back(u, second, lead(led(), 0, "new", 7))
	s.get("new", 15, 7)
	s.get("main", 4, 40)
	s.get("b", 0, 2)
	s.noFree(40)
	s.back(u, first, led())
	s.noGet("new", -1, api.ErrNone)
	s.free(7)
	s.back(u, first, led())
	s.set("new", 7, 0, true)
}

// back asks that an Undo brings back an image that is told here.
func (s *bench) back(u *undo.Undo, mark int, then []byte) {
	s.t.Helper()
	if err := u.Back(mark); err != nil {
		s.t.Fatalf("Back(%d): %v", mark, err)
	}
	s.now = then
	s.want("Back")
}
