package move_test

import (
	"testing"

	"vaultkeel/api"
	"vaultkeel/heap"
	"vaultkeel/move"
	"vaultkeel/plain"
)

// lengths are those of images, the least and the most among them.
var lengths = []int{288, 289, 290, 319, 320, 400, 6399, 6400}

func TestStepWithoutObjects(t *testing.T) {
	for _, n := range lengths {
		benchOf(t, make([]byte, n)).noStep()
		benchOf(t, laid(n)).noStep() // bytes that nobody has are no object
	}
	h, err := heap.New(400)
	if err != nil {
		t.Fatal(err)
	}
	s := &bench{t: t, heap: h, now: make([]byte, 400)}
	s.noStep()
}

func TestStepWhereAllStandCloseTogether(t *testing.T) {
	for _, things := range [][]thing{
		{{1, 288, 1}},
		{{40, 288, 112}},
		{{1, 288, 5}, {2, 293, 7}, {3, 300, 1}},
		{{3, 288, 5}, {1, 293, 7}, {2, 300, 1}},
		{{40, 288, 50}, {17, 338, 61}, {39, 399, 1}}, // nothing is free
		{{40, 288, 50}, {17, 338, 60}, {39, 398, 1}}, // the last byte alone is
	} {
		benchOf(t, laid(400, things...)).noStep()
	}
	benchOf(t, full()).noStep()
	benchOf(t, many(0)).noStep()
	benchOf(t, laid(289, thing{1, 288, 1})).noStep()
}

func TestStepOfOneGoesToHead(t *testing.T) {
	for _, handle := range []int{1, 2, 15, 16, 31, 39, 40} {
		for _, at := range []int{289, 290, 297, 298, 299, 320, 389, 390} { // 390: it ends at the last byte
			s := benchOf(t, laid(400, thing{handle, at, 10}))
			s.step(handle, 288)
			s.noStep()
		}
	}
}

func TestStepTakesTheFirstByPlace(t *testing.T) {
	s := benchOf(t, laid(400, thing{9, 290, 4}, thing{3, 300, 5}, thing{1, 310, 6}, thing{40, 330, 70}))
	s.step(9, 288)
	s.step(3, 292)
	s.step(1, 297)
	s.step(40, 303)
	s.noStep()
	s = benchOf(t, laid(400, thing{1, 310, 6}, thing{2, 300, 5}, thing{3, 295, 5}, thing{4, 289, 4}))
	s.step(4, 288)
	s.step(3, 292)
	s.step(2, 297)
	s.step(1, 302)
	s.noStep()
	s = benchOf(t, some())
	s.step(7, 288)
	s.step(2, 328)
	s.step(40, 348)
	s.noStep()
}

// Those that stand close together from Head on stay, however many there are.
func TestStepLeavesThoseWithNothingFreeAhead(t *testing.T) {
	s := benchOf(t, laid(400, thing{8, 288, 4}, thing{2, 292, 4}, thing{30, 296, 1}, thing{1, 298, 9}, thing{5, 307, 9}))
	s.step(1, 297)
	s.step(5, 306) // nothing was free right ahead of it, till that one moved
	s.noStep()
	for first := 1; first <= 40; first++ {
		var things []thing
		for handle := 1; handle <= 40; handle++ {
			at := 288 + 3*(40-handle)
			if handle <= first {
				at += 5
			}
			things = append(things, thing{handle, at, 3})
		}
		s := benchOf(t, laid(500, things...))
		s.step(first, 288+3*(40-first))
	}
}

// It goes no further than to the one ahead of it, whatever room there is elsewhere, and however well it would fit there.
func TestStepGoesBehindTheOneAhead(t *testing.T) {
	s := benchOf(t, laid(400, thing{1, 288, 10}, thing{2, 310, 5}, thing{3, 320, 5}))
	s.step(2, 298)
	s.step(3, 303)
	s.noStep()
	s = benchOf(t, laid(400, thing{5, 290, 10}, thing{4, 303, 2})) // 4 would fit ahead of 5
	s.step(5, 288)
	s.step(4, 298)
	s.noStep()
	s = benchOf(t, laid(400, thing{5, 290, 10}, thing{4, 300, 2}, thing{3, 340, 30}))
	s.step(5, 288)
	s.step(4, 298)
	s.step(3, 300)
	s.noStep()
}

// Where it stood and where it stands may be over each other: each way in which they lie, by one byte and by all but one among them.
func TestStepByAnyNumberOfBytes(t *testing.T) {
	for size := 1; size <= 9; size++ {
		for by := 1; by <= 2*size+3; by++ {
			s := benchOf(t, laid(400, thing{6, 288 + by, size}))
			s.step(6, 288)
			s.noStep()
			s = benchOf(t, laid(400, thing{6, 288, 7}, thing{3, 295 + by, size}, thing{2, 295 + by + size, 9}))
			s.step(3, 295)
			s.step(2, 295+size)
			s.noStep()
		}
	}
}

func TestStepOfGreatOnesByAnyNumberOfBytes(t *testing.T) {
	for _, size := range []int{255, 256, 257, 512, 999, 1000} {
		for _, by := range []int{1, 2, 255, 256, 257, size - 1, size, size + 1, 2 * size, 6400 - 288 - size} {
			s := benchOf(t, laid(6400, thing{11, 288 + by, size}))
			s.step(11, 288)
			s.noStep()
		}
	}
}

func TestStepOfOneByte(t *testing.T) {
	for _, at := range []int{289, 290, 399} {
		s := benchOf(t, laid(400, thing{40, at, 1}))
		s.step(40, 288)
		s.noStep()
	}
	s := benchOf(t, laid(290, thing{1, 289, 1}))
	s.step(1, 288)
	s.noStep()
}

func TestStepOfTheLastBytes(t *testing.T) {
	for _, c := range []struct{ n, size int }{{290, 1}, {300, 11}, {320, 1}, {1289, 1000}, {2288, 1000}, {6400, 1}, {6400, 1000}} {
		s := benchOf(t, laid(c.n, thing{3, c.n - c.size, c.size}))
		s.step(3, 288)
		s.noStep()
	}
	s := benchOf(t, laid(6400, thing{2, 288, 1000}, thing{1, 5400, 1000}))
	s.step(1, 1288)
	s.noStep()
}

// Six of the greatest leave 112 bytes, which go from ahead of them to behind them, one object after the other.
func TestStepOfAsManyBytesAsThereMayBe(t *testing.T) {
	var things []thing
	for i := range 6 {
		things = append(things, thing{6 - i, 400 + 1000*i, 1000})
	}
	s := benchOf(t, laid(6400, things...))
	for i := range 6 {
		s.step(6-i, 288+1000*i)
	}
	s.noStep()
}

func TestStepOfForty(t *testing.T) {
	s := benchOf(t, many(2))
	for i := range 40 {
		s.step(40-i, 288+150*i)
	}
	s.noStep()
}

// Each tag stays, 0 and 15 among them: it stands beside At and Len.
func TestStepOfEachTag(t *testing.T) {
	for tag := range 16 {
		b := object(laid(400), 5, tag+1, 300, 20)
		s := benchOf(t, object(b, 6, 16-tag, 330, 3))
		s.step(5, 288)
		s.step(6, 308)
		s.noStep()
	}
}

// What is freed where an object moved away is neither cleared nor the object's any more.
func TestStepLeavesTheBytesWhereItStood(t *testing.T) {
	b := laid(400, thing{1, 300, 10})
	s := benchOf(t, b)
	s.step(1, 288)
	if got := s.heap.Bytes(); string(got[298:]) != string(b[298:]) {
		t.Error("bytes that the object does not have now are others")
	}
	s.write(1, 0, 9, 8, 7, 6, 5, 4, 3, 2, 1, 0)
	if got := s.heap.Bytes(); string(got[300:310]) != string(b[300:310]) {
		t.Error("what is written to the object stands where it stood, too")
	}
}

// No New and no Load makes a Heap without an image; it is the one way to an error, beside which nothing may be told.
func TestNothingBesideAnError(t *testing.T) {
	h := &heap.Heap{}
	for range 2 {
		if got, err := move.Step(h); got || plain.Told(err) != api.ErrShape {
			t.Errorf("Step: got %v, %v; want false, ErrShape", got, err)
		}
		if got, err := move.All(h); got != 0 || plain.Told(err) != api.ErrShape {
			t.Errorf("All: got %d, %v; want 0, ErrShape", got, err)
		}
		if got := move.Gain(h); got != 0 {
			t.Errorf("Gain: got %d; want 0", got)
		}
		if got := h.Bytes(); len(got) != 0 {
			t.Errorf("an image of %d bytes is there", len(got))
		}
	}
}
