package old_test

import (
	"bytes"
	"slices"
	"testing"

	"vaultkeel/api"
	"vaultkeel/heap"
	"vaultkeel/image"
	"vaultkeel/old"
	"vaultkeel/root"
)

func TestUpOfNothing(t *testing.T) {
	wantUp(t, []byte{79, 76, 68, 49, 0, 0}, make([]byte, 6400))
}

// All bytes of one, written out.
func TestUpByBytes(t *testing.T) {
	b := []byte{79, 76, 68, 49, 2, 3, 15, 2, 0, 7, 8, 1, 0, 1, 0, 9, 1, 109, 97, 105, 110, 0, 0, 0, 0, 3}
	want := make([]byte, 6400)
	copy(want, []byte{1, 34, 1, 1, 0})
	copy(want[10:], []byte{16, 32, 1, 2, 0})
	copy(want[200:], []byte{109, 97, 105, 110, 0, 0, 0, 0, 0, 0, 3})
	copy(want[288:], []byte{7, 8, 9})
	wantUp(t, b, want)
}

func TestUpOfOneObject(t *testing.T) {
	for handle := 1; handle <= 40; handle++ {
		for tag := 0; tag <= 15; tag++ {
			l := []thing{{handle, tag, stuff(5, handle)}}
			wantUp(t, once(l, nil), now(l, nil))
		}
	}
}

// Each Len that may be.
func TestUpOfEachLen(t *testing.T) {
	for n := 1; n <= 1000; n++ {
		l := []thing{{3, 1, stuff(n, n)}}
		out, err := old.Up(once(l, nil))
		if err != nil || !bytes.Equal(out, now(l, nil)) {
			t.Errorf("Up of an object of %d bytes: got %d bytes, %v", n, len(out), err)
		}
	}
	for _, n := range []int{1, 255, 256, 257, 999, 1000} {
		l := []thing{{3, 1, stuff(n, n)}, {2, 1, stuff(1, n)}, {1, 2, stuff(1001-n, n)}}
		wantUp(t, once(l, nil), now(l, nil))
	}
}

// Bytes of objects may be whatever they are: zeros, and what an image of old has elsewhere.
func TestUpOfAnyBytes(t *testing.T) {
	every := make([]byte, 256)
	for i := range every {
		every[i] = byte(i)
	}
	for _, body := range [][]byte{make([]byte, 1), make([]byte, 1000), {255}, every, begin, once(some()), once(nil, nil)} {
		l := []thing{{9, 4, body}, {1, 0, begin}}
		wantUp(t, once(l, []lead{{"a", 1}}), now(l, []lead{{"a", 1}}))
	}
}

func TestUpOfSeveral(t *testing.T) {
	wantUp(t, once(some()), now(some()))
	things, leads := some()
	wantUp(t, once(rising(things), leads), now(rising(things), leads))
	wantUp(t, once(things, nil), now(things, nil))
}

// They stand in the order of the bytes, in each order there is.
func TestUpInTheirOrder(t *testing.T) {
	l := []thing{{1, 1, stuff(1, 1)}, {2, 2, stuff(20, 2)}, {3, 3, stuff(300, 3)}, {40, 4, stuff(7, 4)}}
	for i := range 4 {
		for k := range 4 {
			for m := range 4 {
				if i != k && i != m && k != m {
					order := []thing{l[i], l[k], l[m], l[6-i-k-m]}
					wantUp(t, once(order, []lead{{"x", 3}}), now(order, []lead{{"x", 3}}))
				}
			}
		}
	}
}

func TestUpOfAsManyAsMayBe(t *testing.T) {
	things, leads := many()
	wantUp(t, once(things, leads), now(things, leads))
	wantUp(t, once(rising(things), leads), now(rising(things), leads))
	for n := range 41 {
		wantUp(t, once(things[:n], nil), now(things[:n], nil))
	}
}

// The last one that just has room, behind few and behind many.
func TestUpJustFits(t *testing.T) {
	var l []thing
	for handle := 1; handle <= 6; handle++ {
		l = append(l, thing{handle, 0, stuff(1000, handle)})
	}
	for _, n := range []int{1, 111, 112} {
		last := append(slices.Clone(l), thing{40, 0, stuff(n, 9)})
		wantUp(t, once(last, nil), now(last, nil))
	}
	two := append(slices.Clone(l), thing{40, 0, stuff(111, 9)}, thing{39, 0, stuff(1, 9)})
	wantUp(t, once(two, nil), now(two, nil))
}

// Roots stand at the places 0, 1, ... in their order, whatever their names are and wherever they lead.
func TestUpOfRoots(t *testing.T) {
	things, _ := some()
	for n := range 9 {
		var l, back []lead
		for i, name := range rootNames[:n] {
			l = append(l, lead{name, []int{40, 7, 2}[i%3]})
			back = append([]lead{{name, 2}}, back...)
		}
		wantUp(t, once(things, l), now(things, l))
		wantUp(t, once(things, back), now(things, back))
	}
	for c := 'a'; c <= 'z'; c++ {
		name := string(c)
		l := []lead{{name + name, 7}, {name, 7}, {"aaaaaaa" + name, 2}, {name + "zzzzzzz", 2}}
		wantUp(t, once(things, l), now(things, l))
	}
}

// Names of which one begins with another are not the same.
func TestUpOfNamesThatBeginSo(t *testing.T) {
	things, _ := some()
	var l []lead
	for n := 8; n >= 1; n-- {
		l = append(l, lead{"aaaaaaaa"[:n], 7})
	}
	wantUp(t, once(things, l), now(things, l))
}

// By handle and by name all is as it stood in the bytes.
func TestUpByHandleAndName(t *testing.T) {
	things, leads := many()
	out, err := old.Up(once(things, leads))
	if err != nil {
		t.Fatal(err)
	}
	h, err := heap.Load(out)
	if err != nil {
		t.Fatal(err)
	}
	at := 288
	for _, o := range things {
		e, err := image.Get(out, o.handle)
		want := api.Entry{Handle: o.handle, Tag: o.tag, Extent: api.Extent{At: at, Len: len(o.body)}}
		if err != nil || e != want {
			t.Errorf("entry of %d: got %v, %v; want %v", o.handle, e, err, want)
		}
		b, err := h.Read(o.handle, 0, len(o.body))
		if err != nil || !bytes.Equal(b, o.body) {
			t.Errorf("bytes of %d: got % x, %v", o.handle, b, err)
		}
		at += len(o.body)
	}
	for i, r := range root.All(h) {
		if r.Name != leads[i].name || r.Handle != leads[i].handle {
			t.Errorf("root %d: got %v, want %v", i, r, leads[i])
		}
	}
	if n := len(root.All(h)); n != 8 {
		t.Errorf("got %d roots, want 8", n)
	}
}

// What a call answers hangs on its bytes alone, whatever was asked ahead, with a fault or without one.
func TestUpHangsOnItsBytesAlone(t *testing.T) {
	things, leads := some()
	b, want := once(things, leads), now(things, leads)
	for _, ahead := range [][]byte{nil, once(many()), b[:30], append(slices.Clone(b), 0), once(nil, nil), now(many())} {
		old.Up(ahead)
		old.Down(ahead)
		if out, err := old.Up(b); err != nil || !bytes.Equal(out, want) {
			t.Errorf("Up behind other calls: got %d bytes, %v", len(out), err)
		}
		if out, err := old.Down(want); err != nil || !bytes.Equal(out, once(rising(things), leads)) {
			t.Errorf("Down behind other calls: got %d bytes, %v", len(out), err)
		}
	}
}
