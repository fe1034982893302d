package store_test

import (
	"testing"

	"vaultkeel/api"
	"vaultkeel/heap"
	"vaultkeel/move"
	"vaultkeel/reach"
	"vaultkeel/root"
)

// What is done with the Heap is there at the next call, and is kept once Commit says nothing.
func TestHeapIsTheStoresOwn(t *testing.T) {
	x := created(t, 60)
	held := x.store.Heap()
	x.alloc(9, 3, 1, 288)
	if got, err := held.Size(1); got != 9 || err != nil {
		t.Errorf("Size of an object that was allocated by another call of Heap: got %d, %v", got, err)
	}
	wantTold(t, "Write by the one that was held", held.Write(1, 2, []byte{7, 8}), api.OK)
	x.now = replaced(x.now, 290, 7, 8)
	x.want("Write by the one that was held")
	x.commit()
	wantTold(t, "Write behind Commit", held.Write(1, 0, []byte{9}), api.OK)
	x.now = replaced(x.now, 288, 9)
	x.want("Write behind Commit")
	x.abort()
	wantTold(t, "Write behind Abort", held.Write(1, 8, []byte{10}), api.OK)
	x.now = replaced(x.now, 296, 10)
	x.want("Write behind Abort")
	x.commit()
}

// Two Stores on two devices have nothing in common.
func TestHeapsOfTwoStores(t *testing.T) {
	x, y := created(t, 60), created(t, 60)
	x.some()
	y.want("what was done with another Store")
	y.alloc(5, 1, 1, 288)
	y.commit()
	x.want("what was done with another Store")
	y.abort()
	x.wantOnDevice("what was done with another Store")
}

// Byte for byte: also what is left of an object that was freed, and what a free byte has.
func TestHeapBehindOpenIsAsItWasKept(t *testing.T) {
	b := right()
	x := openedOn(t, holding(t, b), b, 2)
	x.free(2)
	x.alloc(7, 4, 2, 298)
	x.free(1)
	x.set(0, "c", 2)
	x.commit()
	x = openedOn(t, x.device, x.kept, 3)
	x.alloc(10, 0, 1, 288)
	x.commit()
	x = openedOn(t, x.device, x.kept, 4)
	x.commit()
}

// All that the layers above do with a Heap is kept.
func TestHeapUsedByOtherLayers(t *testing.T) {
	deeds := []struct {
		what string
		do   func(h *heap.Heap) error
	}{
		{"Unset", func(h *heap.Heap) error { return root.Unset(h, "eightlet") }},
		{"Set in its place", func(h *heap.Heap) error { _, err := root.Set(h, "main", 3); return err }},
		{"Sweep", func(h *heap.Heap) error { _, err := reach.Sweep(h); return err }},
		{"a step of moving", func(h *heap.Heap) error { _, err := move.Step(h); return err }},
		{"moving", func(h *heap.Heap) error { _, err := move.All(h); return err }},
	}
	x := created(t, 60)
	x.some()
	x.alloc(8, 0, 2, 320)
	x.alloc(30, 0, 4, 352)
	x.commit()
	for _, c := range deeds {
		wantTold(t, c.what, c.do(x.store.Heap()), api.OK)
		x.now = x.heap.Bytes()
		x.want(c.what)
		x.commit()
		x = openedOn(t, x.device, x.kept, x.stamp)
	}
}
