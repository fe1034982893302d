package play_test

import (
	"slices"
	"testing"

	"vaultkeel/api"
	"vaultkeel/play"
	"vaultkeel/store"
)

// Len is how many bytes, At is the tag: the least handle that is none, in the shortest run that has room.
func TestDoAlloc(t *testing.T) {
	x := some(t)
	x.done(alloc(20, 7), object(replaced(x.now, 320, make([]byte, 20)...), 2, 8, 320, 20))
	x.done(alloc(5, 0), object(x.now, 4, 1, 352, 5))
	x.done(alloc(27, 15), object(x.now, 5, 16, 357, 27))
	x.refuse(alloc(1, 0), api.ErrFull)
	x.commit()
}

func TestDoAllocOfTheLeastAndTheMost(t *testing.T) {
	x := wide(t)
	x.done(alloc(1, 15), object(x.now, 2, 16, 1288, 1))
	x.done(free(1), object(x.now, 1, 0, 0, 0))
	x.done(alloc(1000, 15), object(x.now, 1, 16, 288, 1000))
	x.commit()
}

// What was freed there is 0 then.
func TestDoAllocOfWhatWasUsed(t *testing.T) {
	x := wide(t)
	x.done(write(1, 0, counted(1, 40)), replaced(x.now, 288, counted(1, 40)...))
	x.commit()
	x.done(free(1), object(x.now, 1, 0, 0, 0))
	x.done(alloc(30, 4), object(replaced(x.now, 288, make([]byte, 30)...), 1, 5, 288, 30))
	x.commit()
}

func TestDoAllocOfAllHandles(t *testing.T) {
	x := created(t, 60)
	for handle := 1; handle <= 40; handle++ {
		x.done(alloc(1, handle%16), object(x.now, handle, 1+handle%16, 287+handle, 1))
	}
	x.refuse(alloc(1, 0), api.ErrFull)
	x.done(free(17), object(x.now, 17, 0, 0, 0))
	x.done(alloc(1, 9), object(x.now, 17, 10, 304, 1))
	x.commit()
}

// Of Handle: it is none, its bytes stay.
func TestDoFree(t *testing.T) {
	x := some(t)
	x.done(unset("main"), rooted(x.now, 0, "", 0))
	x.done(free(1), object(x.now, 1, 0, 0, 0))
	x.commit()
	x.done(unset("eightlet"), rooted(x.now, 1, "", 0))
	x.done(free(3), object(x.now, 3, 0, 0, 0))
	x.commit()
	x.refuse(free(3), api.ErrNone)
}

// Body, at At, of Handle.
func TestDoWrite(t *testing.T) {
	x := some(t)
	x.done(write(3, 0, counted(8, 12)), replaced(x.now, 340, counted(8, 12)...))
	x.done(write(1, 31, []byte{0}), replaced(x.now, 319, 0))
	x.done(write(1, 4, []byte{7, 8, 9}), replaced(x.now, 292, 7, 8, 9))
	x.commit()
	x.done(write(3, 11, []byte{200}), replaced(x.now, 351, 200))
	x.done(write(3, 11, nil), x.now)
	x.done(write(3, 12, nil), x.now)
	x.done(write(1, 0, []byte{}), x.now)
	x.commit()
}

// What a Body has behind its length is nobody's.
func TestDoWriteBehindTheLength(t *testing.T) {
	x := some(t)
	body := counted(9, 20)
	for _, s := range x.sides {
		wantTold(t, "Write", play.Do(s.store, write(3, 10, body[:2])), api.OK)
	}
	x.now = replaced(x.now, 350, counted(9, 2)...)
	x.want("Write")
	if !slices.Equal(body, counted(9, 20)) {
		t.Errorf("Write wrote into what it was given")
	}
}

// Name, Handle: in the first place that has none, or in its own one.
func TestDoSet(t *testing.T) {
	x := some(t)
	x.done(set("a", 3), rooted(x.now, 2, "a", 3))
	x.done(set("main", 3), rooted(x.now, 0, "main", 3))
	x.done(set("main", 3), x.now)
	x.done(unset("eightlet"), rooted(x.now, 1, "", 0))
	x.done(set("zzzzzzzz", 1), rooted(x.now, 1, "zzzzzzzz", 1))
	x.commit()
	for i, name := range []string{"b", "c", "d", "e", "f"} {
		x.done(set(name, 1), rooted(x.now, 3+i, name, 1))
	}
	x.refuse(set("g", 1), api.ErrFull)
	x.done(set("f", 3), rooted(x.now, 7, "f", 3))
	x.commit()
}

func TestDoUnset(t *testing.T) {
	x := some(t)
	x.done(unset("main"), rooted(x.now, 0, "", 0))
	x.refuse(unset("main"), api.ErrNone)
	x.commit()
	x.done(unset("eightlet"), rooted(x.now, 1, "", 0))
	x.commit()
}

// One Step, not all of them: the first object ahead of which a byte is free.
func TestDoPack(t *testing.T) {
	x := created(t, 60)
	for handle, n := range []int{0, 10, 20, 5, 9, 8} {
		if handle > 0 {
			x.done(alloc(n, handle), object(x.now, handle, handle+1, []int{0, 288, 298, 318, 323, 332}[handle], n))
			x.done(write(handle, 0, counted(60+handle, n)), replaced(x.now, []int{0, 288, 298, 318, 323, 332}[handle], counted(60+handle, n)...))
		}
	}
	x.done(free(1), object(x.now, 1, 0, 0, 0))
	x.done(free(4), object(x.now, 4, 0, 0, 0))
	x.commit()
	x.done(pack, object(replaced(x.now, 288, counted(62, 20)...), 2, 3, 288, 20))
	x.done(pack, object(replaced(x.now, 308, counted(63, 5)...), 3, 4, 308, 5))
	x.commit()
	x.done(pack, object(replaced(x.now, 313, counted(65, 8)...), 5, 6, 313, 8))
	x.done(pack, x.now)
	x.commit()
	x.done(pack, x.now)
}

// With nothing that moves nothing is done, and that is no error.
func TestDoPackOfNothing(t *testing.T) {
	x := created(t, 57)
	x.done(pack, x.now)
	x = wide(t)
	x.done(pack, x.now)
	x.done(free(1), object(x.now, 1, 0, 0, 0))
	x.done(pack, x.now)
}

// All that are Dead are freed, their bytes stay.
func TestDoSweep(t *testing.T) {
	x := some(t)
	x.done(alloc(4, 2), object(replaced(x.now, 320, 0, 0, 0, 0), 2, 3, 320, 4))
	x.done(alloc(3, 1), object(replaced(x.now, 324, 0, 0, 0), 4, 2, 324, 3))
	x.done(alloc(2, 0), object(replaced(x.now, 327, 0, 0), 5, 1, 327, 2))
	x.done(write(2, 0, []byte{4, 2, 5}), replaced(x.now, 320, 4, 2, 5))
	x.done(write(4, 0, []byte{2, 5}), replaced(x.now, 324, 2, 5))
	x.commit()
	x.done(set("b", 2), rooted(x.now, 2, "b", 2))
	x.done(sweep, object(x.now, 5, 0, 0, 0)) // the third byte of 2, and the second of 4, name nobody
	x.commit()
	x.done(sweep, x.now)
	x.done(unset("b"), rooted(x.now, 2, "", 0))
	x.done(sweep, object(object(x.now, 2, 0, 0, 0), 4, 0, 0, 0)) // they name each other, and nobody leads there
	x.commit()
	x.done(sweep, x.now)
}

func TestDoSweepOfAll(t *testing.T) {
	x := created(t, 57)
	x.done(sweep, x.now)
	x = wide(t)
	x.done(sweep, object(x.now, 1, 0, 0, 0))
	x.commit()
}

func TestDoCommit(t *testing.T) {
	x := some(t)
	x.commit()
	x.done(write(1, 3, []byte{1, 2}), replaced(x.now, 291, 1, 2))
	x.commit()
	x.done(write(3, 3, []byte{1, 2}), replaced(x.now, 343, 1, 2))
	x.done(set("b", 1), rooted(x.now, 2, "b", 1))
	x.commit()
	if x.stamp != 5 {
		t.Errorf("Stamp behind three Commits of something: %d", x.stamp)
	}
}

// As many pages as may be committed at once, and one more.
func TestDoCommitOfTooMany(t *testing.T) {
	x := wide(t)
	x.done(write(1, 0, counted(1, 23*32)), replaced(x.now, 288, counted(1, 23*32)...))
	x.commit()
	x.done(write(1, 0, counted(2, 23*32+1)), replaced(x.now, 288, counted(2, 23*32+1)...))
	x.refuse(commit, api.ErrFull)
	x.done(write(1, 23*32, []byte{0}), replaced(x.now, 288+23*32, 0))
	x.commit()
}

// The Heap is as it was kept, in whoever holds it.
func TestDoAbort(t *testing.T) {
	x := created(t, 60)
	x.abort()
	x.done(alloc(9, 9), object(x.now, 1, 10, 288, 9))
	x.abort()
	x = some(t)
	x.abort()
	x.done(write(1, 0, counted(9, 32)), replaced(x.now, 288, counted(9, 32)...))
	x.done(set("main", 3), rooted(x.now, 0, "main", 3))
	x.done(free(1), object(x.now, 1, 0, 0, 0))
	x.done(pack, object(replaced(x.now, 288, x.now[340:352]...), 3, 16, 288, 12))
	x.abort()
	x.commit()
	x.done(write(1, 0, []byte{3}), replaced(x.now, 288, 3))
	x.commit()
	x.done(write(1, 0, []byte{4}), replaced(x.now, 288, 4))
	x.abort()
	x = wide(t)
	x.done(write(1, 0, counted(2, 1000)), replaced(x.now, 288, counted(2, 1000)...))
	x.refuse(commit, api.ErrFull)
	x.abort()
}

// What the Heap is done to itself counts, as do ops.
func TestDoBesideTheHeap(t *testing.T) {
	x := some(t)
	for _, s := range x.sides {
		if handle, err := s.heap.Alloc(20, 1); handle != 2 || err != nil {
			t.Fatalf("Alloc: got %d, %v", handle, err)
		}
	}
	x.now = object(replaced(x.now, 320, make([]byte, 20)...), 2, 2, 320, 20)
	x.want("Alloc")
	x.done(write(2, 3, []byte{5}), replaced(x.now, 323, 5))
	x.commit()
}

// A Store that was opened is as good as one that was created.
func TestDoWithAnOpenedStore(t *testing.T) {
	x := some(t)
	for i := range x.sides {
		s, err := store.Open(x.sides[i].device)
		if err != nil {
			t.Fatalf("Open: %v", err)
		}
		x.sides[i].store, x.sides[i].heap = s, s.Heap()
	}
	x.want("Open")
	x.done(write(1, 3, []byte{1, 2}), replaced(x.now, 291, 1, 2))
	x.commit()
	x.done(sweep, x.now)
	x.done(pack, object(replaced(x.now, 320, x.now[340:352]...), 3, 16, 320, 12))
	x.abort()
}
