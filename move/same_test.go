package move_test

import (
	"bytes"
	"slices"
	"testing"

	"vaultkeel/api"
	"vaultkeel/move"
	"vaultkeel/reach"
	"vaultkeel/root"
)

// wantRead asks for bytes that are written out, and for each part of them.
func (s *bench) wantRead(handle int, want []byte) {
	s.t.Helper()
	for at := range len(want) + 1 {
		for n := range len(want) - at + 1 {
			if got, err := s.heap.Read(handle, at, n); !bytes.Equal(got, want[at:at+n]) || err != nil {
				s.t.Fatalf("Read(%d, %d, %d): got %v, %v; want %v", handle, at, n, got, err, want[at:at+n])
			}
		}
	}
}

func TestReadIsTheSameBehindEachOfThem(t *testing.T) {
	b := some()
	s := benchOf(t, b)
	same := func() {
		t.Helper()
		s.wantRead(7, b[289:329])
		s.wantRead(2, b[330:350])
		s.wantRead(40, b[351:400])
	}
	s.gain(2)
	same()
	s.step(7, 288)
	same()
	s.gain(1)
	same()
	s.all(2)
	same()
	s.noStep()
	s.all(0)
	same()
}

// What is written to one behind a move is there, and nobody else has it.
func TestWriteBehindAMove(t *testing.T) {
	s := benchOf(t, some())
	s.step(7, 288)
	s.write(7, 38, 1, 0)
	s.write(2, 0, 3, 4)
	s.all(2)
	s.write(7, 39, 5)
	s.write(2, 19, 6)
	s.write(40, 0, 7)
	s.write(40, 48, 8)
	for _, c := range []struct {
		handle, at int
		want       byte
	}{{7, 38, 1}, {7, 39, 5}, {2, 0, 3}, {2, 1, 4}, {2, 19, 6}, {40, 0, 7}, {40, 48, 8}} {
		if got, err := s.heap.Read(c.handle, c.at, 1); len(got) != 1 || got[0] != c.want || err != nil {
			t.Errorf("Read(%d, %d, 1): got %v, %v; want %d", c.handle, c.at, got, err, c.want)
		}
	}
}

func TestRootsLeadWhereTheyLed(t *testing.T) {
	s := benchOf(t, some())
	led := func() {
		t.Helper()
		want := []api.Root{{Name: "main", Handle: 40}, {Name: "b", Handle: 2}}
		if got := root.All(s.heap); !slices.Equal(got, want) {
			t.Fatalf("All: got %v; want %v", got, want)
		}
		for _, r := range want {
			for _, tag := range []int{-1, r.Handle % 16} {
				if got, err := root.Get(s.heap, r.Name, tag); got != r.Handle || err != nil {
					t.Fatalf("Get(%q, %d): got %d, %v; want %d", r.Name, tag, got, err, r.Handle)
				}
			}
		}
	}
	led()
	s.gain(2)
	led()
	s.step(7, 288)
	led()
	s.all(2)
	led()
	if !bytes.Equal(s.heap.Bytes()[200:288], some()[200:288]) {
		t.Error("the roots stand at other places")
	}
}

func TestEightRootsLeadWhereTheyLed(t *testing.T) {
	s := benchOf(t, many(2))
	s.all(40)
	for i, name := range rootNames {
		if got, err := root.Get(s.heap, name, (40-5*i)%16); got != 40-5*i || err != nil {
			t.Errorf("Get(%q): got %d, %v; want %d", name, got, err, 40-5*i)
		}
	}
}

// Who is led to is told by handles, so that moving changes nothing of it.
func TestWhoIsLedToStays(t *testing.T) {
	b := lead(laid(400, thing{33, 300, 2}, thing{2, 310, 2}, thing{19, 320, 3}, thing{7, 330, 7}), 3, "main", 33)
	s := benchOf(t, replaced(replaced(b, 300, 19, 0), 320, 2, 0, 0))
	live, dead := reach.Live(s.heap), reach.Dead(s.heap)
	way, err := reach.Path(s.heap, 2)
	if err != nil || !slices.Equal(way, []int{33, 19, 2}) || !slices.Equal(dead, []int{7}) {
		t.Fatalf("Path: got %v, %v; Dead: got %v", way, err, dead)
	}
	for _, o := range []thing{{33, 288, 2}, {2, 290, 2}, {19, 292, 3}, {7, 295, 7}} {
		s.step(o.handle, o.at)
		again, err := reach.Path(s.heap, 2)
		if !slices.Equal(again, way) || err != nil || !slices.Equal(reach.Live(s.heap), live) || !slices.Equal(reach.Dead(s.heap), dead) {
			t.Fatalf("behind a Step: Path %v, %v, Live %v, Dead %v", again, err, reach.Live(s.heap), reach.Dead(s.heap))
		}
	}
}

func TestAllocOfTheOneRun(t *testing.T) {
	s := benchOf(t, laid(400, thing{1, 298, 50}, thing{2, 358, 32})) // free: 10, 10 and 10
	s.noAlloc(11, api.ErrFull)
	s.noAlloc(30, api.ErrFull)
	s.all(2)
	s.noAlloc(31, api.ErrFull)
	s.alloc(30, 3, 3, 370)
	s.noAlloc(1, api.ErrFull)
	s.all(0)
	s.free(1)
	s.noAlloc(51, api.ErrFull)
	s.all(2)
	s.alloc(50, 9, 1, 350)
}

func TestAllocOfOneByteBehindAll(t *testing.T) {
	s := benchOf(t, laid(290, thing{7, 289, 1}))
	s.all(1)
	s.alloc(1, 15, 1, 289)
	s.noAlloc(1, api.ErrFull)
	s = benchOf(t, laid(289, thing{7, 288, 1})) // none is free
	s.all(0)
	s.noAlloc(1, api.ErrFull)
}

func TestAllocOfTheGreatestBehindAll(t *testing.T) {
	s := benchOf(t, laid(2288, thing{4, 788, 500}, thing{6, 1788, 500})) // free: 500 and 500
	s.noAlloc(1000, api.ErrFull)
	s.noAlloc(501, api.ErrFull)
	s.gain(500)
	s.all(2)
	s.alloc(1000, 0, 1, 1288)
	s.noAlloc(1, api.ErrFull)
	s = benchOf(t, laid(6400, thing{4, 1287, 2000 - 1287}, thing{6, 2999, 1000}, thing{5, 4998, 1000})) // 999, 999, 999 and 402
	s.noAlloc(1000, api.ErrFull)
	s.all(3)
	s.alloc(1000, 1, 1, 288+713+2000)
	s.alloc(1000, 2, 2, 288+713+3000)
	s.alloc(1000, 3, 3, 288+713+4000)
	s.alloc(399, 4, 7, 288+713+5000)
	s.noAlloc(1, api.ErrFull)
}

// Without a handle there is no object, however long the run is.
func TestAllocWithoutAHandleBehindAll(t *testing.T) {
	s := benchOf(t, many(2))
	s.all(40)
	s.noAlloc(1, api.ErrFull)
	s.free(39)
	s.gain(112) // 150 where it stood, and 112
	s.all(38)
	s.noAlloc(263, api.ErrFull)
	s.alloc(262, 5, 39, 6138)
	s.all(0)
}

// The bytes of an Alloc are 0 behind a move, too, though what stood there has left its own.
func TestAllocWhereAnObjectStood(t *testing.T) {
	s := benchOf(t, laid(310, thing{3, 300, 10}))
	s.all(1)
	s.alloc(12, 0, 1, 298)
	s.wantRead(1, make([]byte, 12))
	b := laid(310)
	s.wantRead(3, b[300:310])
}

// Behind any of them the Heap is still the one that others hold.
func TestWhoeverHoldsTheHeapHasIt(t *testing.T) {
	s := benchOf(t, some())
	held := s.heap
	if n, err := move.All(s.heap); n != 3 || err != nil {
		t.Fatalf("All: got %d, %v; want 3", n, err)
	}
	if got := placeOf(held.Bytes(), 40).At; got != 348 {
		t.Errorf("another holder has it at %d", got)
	}
	if err := held.Write(40, 0, []byte{200}); err != nil {
		t.Fatal(err)
	}
	if got := s.heap.Bytes()[348]; got != 200 {
		t.Errorf("what another holder wrote is not there: %d", got)
	}
}
