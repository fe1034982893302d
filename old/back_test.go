package old_test

import (
	"bytes"
	"math/rand"
	"testing"

	"vaultkeel/check"
	"vaultkeel/heap"
	"vaultkeel/move"
	"vaultkeel/old"
	"vaultkeel/root"
)

// wantBack asks that an image that is right is the same behind Down and Up, and that no byte of the image of old is another one behind a further way up and down.
func wantBack(t *testing.T, b []byte) {
	t.Helper()
	down, err := old.Down(b)
	if err != nil {
		t.Fatalf("Down: %v", err)
	}
	up, err := old.Up(down)
	if err != nil {
		t.Fatalf("Up of what Down gave: %v", err)
	}
	if same, err := check.Same(b, up); err != nil || !same {
		t.Errorf("Up of what Down gave is not the same: %v, %v", same, err)
	}
	again, err := old.Down(up)
	if err != nil || !bytes.Equal(again, down) {
		t.Errorf("Down once more: got %d bytes, %v; want %d", len(again), err, len(down))
	}
	if old.Version(b) != 2 || old.Version(down) != 1 || old.Version(up) != 2 {
		t.Errorf("versions: got %d, %d, %d; want 2, 1, 2", old.Version(b), old.Version(down), old.Version(up))
	}
}

// wantThere asks that what is laid goes up and down, and is then by handle.
func wantThere(t *testing.T, things []thing, leads []lead) {
	t.Helper()
	up, err := old.Up(once(things, leads))
	if err != nil || !bytes.Equal(up, now(things, leads)) {
		t.Fatalf("Up: got %d bytes, %v", len(up), err)
	}
	down, err := old.Down(up)
	if err != nil || !bytes.Equal(down, once(rising(things), leads)) {
		t.Errorf("Down of what Up gave: got %d bytes, %v", len(down), err)
	}
	wantBack(t, up)
}

func TestThereAndBack(t *testing.T) {
	wantThere(t, nil, nil)
	wantThere(t, []thing{{40, 15, stuff(1000, 1)}}, []lead{{"a", 40}})
	for _, f := range []func() ([]thing, []lead){some, many} {
		things, leads := f()
		wantThere(t, things, leads)
		wantThere(t, rising(things), leads)
		wantThere(t, things, nil)
	}
	wantBack(t, make([]byte, 288))
	wantBack(t, scattered(340))
	wantBack(t, scattered(6400))
}

// drawnThings gives objects that have room, in any order of handles, and roots that lead to them.
func drawnThings(r *rand.Rand) (things []thing, leads []lead) {
	room, most := 6112, []int{4, 60, 1000}[r.Intn(3)]
	for _, i := range r.Perm(40)[:r.Intn(41)] {
		size := 1 + r.Intn(most)
		if size > room {
			break
		}
		room -= size
		body := make([]byte, size)
		r.Read(body)
		things = append(things, thing{i + 1, r.Intn(16), body})
	}
	for _, i := range r.Perm(8)[:r.Intn(9)] {
		if len(things) > 0 {
			leads = append(leads, lead{rootNames[i], things[r.Intn(len(things))].handle})
		}
	}
	return things, leads
}

func TestDrawnThereAndBack(t *testing.T) {
	r := rand.New(rand.NewSource(15))
	for range 1500 {
		things, leads := drawnThings(r)
		wantThere(t, things, leads)
	}
}

// Images of a Heap of which objects were freed and moved, and roots set and unset.
func TestDrawnHeapsBack(t *testing.T) {
	r := rand.New(rand.NewSource(16))
	for range 60 {
		h, err := heap.New(288 + r.Intn(6113))
		if err != nil {
			t.Fatal(err)
		}
		for range 120 {
			drawnCall(r, h)
			if r.Intn(10) == 0 {
				wantBack(t, h.Bytes())
			}
		}
		wantBack(t, h.Bytes())
	}
}

// drawnCall does something with a Heap; what it says is not asked, as it is another chapter's.
func drawnCall(r *rand.Rand, h *heap.Heap) {
	handle, name := 1+r.Intn(40), rootNames[r.Intn(8)]
	switch r.Intn(8) {
	case 0, 1, 2:
		if made, err := h.Alloc(1+r.Intn(300), r.Intn(16)); err == nil {
			h.Write(made, 0, []byte{byte(1 + r.Intn(255))})
		}
	case 3:
		h.Free(handle)
	case 4:
		h.Write(handle, 0, []byte{byte(r.Intn(256))})
	case 5:
		root.Set(h, name, handle)
	case 6:
		root.Unset(h, name)
	case 7:
		move.Step(h)
	}
}
