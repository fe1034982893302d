package move_test

import (
	"bytes"
	"testing"

	"vaultkeel/move"
)

func TestAllWithoutObjects(t *testing.T) {
	for _, n := range lengths {
		benchOf(t, make([]byte, n)).all(0)
		benchOf(t, laid(n)).all(0)
	}
}

func TestAllWhereAllStandCloseTogether(t *testing.T) {
	for _, b := range [][]byte{
		laid(289, thing{1, 288, 1}),
		laid(400, thing{1, 288, 1}),
		laid(400, thing{3, 288, 5}, thing{1, 293, 7}, thing{2, 300, 100}),
		full(),
		many(0),
	} {
		s := benchOf(t, b)
		s.all(0)
		if !bytes.Equal(s.heap.Bytes(), b) {
			t.Error("All that moves nothing has changed the image")
		}
	}
}

func TestAllOfOne(t *testing.T) {
	for _, o := range []thing{{1, 289, 1}, {1, 399, 1}, {40, 289, 111}, {16, 300, 100}, {7, 300, 12}, {7, 300, 13}, {7, 300, 11}} {
		s := benchOf(t, laid(400, o))
		s.all(1)
		if got := placeOf(s.heap.Bytes(), o.handle); got.At != 288 || got.Len != o.size {
			t.Errorf("%v stands at %v", o, got)
		}
	}
	benchOf(t, laid(6400, thing{1, 5400, 1000})).all(1)
	benchOf(t, laid(1289, thing{1, 289, 1000})).all(1)
}

// Those that stand close together from Head on do not count, all behind the first free byte do.
func TestAllCountsThoseThatMove(t *testing.T) {
	for first := 1; first <= 8; first++ {
		var things []thing
		for i := 1; i <= 8; i++ {
			at := 288 + 5*i
			if i >= first {
				at += 2
			}
			things = append(things, thing{i * 3 % 11, at - 5, 5})
		}
		benchOf(t, laid(400, things...)).all(9 - first)
	}
	benchOf(t, some()).all(3)
	benchOf(t, laid(400, thing{1, 288, 9}, thing{2, 298, 9}, thing{3, 308, 9})).all(2)
}

func TestAllOfAsManyAsThereAre(t *testing.T) {
	s := benchOf(t, many(2))
	s.all(40)
	for i, handle := range byPlace(s.heap.Bytes()) {
		if got := placeOf(s.heap.Bytes(), handle); handle != 40-i || got.At != 288+150*i {
			t.Fatalf("%d stands at %v, as number %d", handle, got, i)
		}
	}
	var things []thing
	for i := range 40 {
		things = append(things, thing{1 + i*7%40, 289 + 2*i, 1})
	}
	benchOf(t, laid(368, things...)).all(40) // each moves by more bytes than the one ahead of it, the last by 40
	things = nil
	for i := range 40 {
		things = append(things, thing{1 + i*11%40, 289 + i, 1})
	}
	benchOf(t, laid(329, things...)).all(40) // each by the one byte that is free
}

func TestAllKeepsTheOrderOfPlaces(t *testing.T) {
	s := benchOf(t, laid(400, thing{4, 290, 9}, thing{40, 300, 1}, thing{1, 302, 20}, thing{39, 330, 3}, thing{2, 390, 10}))
	s.all(5)
	at := 288
	for _, o := range []thing{{4, 0, 9}, {40, 0, 1}, {1, 0, 20}, {39, 0, 3}, {2, 0, 10}} {
		if got := placeOf(s.heap.Bytes(), o.handle); got.At != at || got.Len != o.size {
			t.Errorf("%d stands at %v; want %d", o.handle, got, at)
		}
		at += o.size
	}
}

// All is Step, till there is none: byte for byte, those that nobody has among them.
func TestAllIsStepTillThereIsNone(t *testing.T) {
	for _, b := range [][]byte{
		make([]byte, 288), some(), many(2), many(1), many(0), full(),
		laid(400, thing{4, 290, 9}, thing{40, 300, 1}, thing{1, 302, 20}, thing{39, 330, 3}, thing{2, 390, 10}),
	} {
		one, other := benchOf(t, b), benchOf(t, b)
		n := 0
		for {
			is, err := move.Step(one.heap)
			if err != nil {
				t.Fatal(err)
			}
			if !is {
				break
			}
			n++
		}
		other.all(n)
		if !bytes.Equal(one.heap.Bytes(), other.heap.Bytes()) {
			t.Errorf("behind %d Steps the image is another one than behind All", n)
		}
	}
}

func TestAllBehindSomeSteps(t *testing.T) {
	for k := range 4 {
		s := benchOf(t, some())
		for i, o := range []thing{{7, 288, 0}, {2, 328, 0}, {40, 348, 0}} {
			if i < k {
				s.step(o.handle, o.at)
			}
		}
		s.all(3 - k)
	}
}
