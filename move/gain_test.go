package move_test

import (
	"testing"
)

func TestGainWithoutObjects(t *testing.T) {
	for _, n := range lengths {
		benchOf(t, make([]byte, n)).gain(0)
		benchOf(t, laid(n)).gain(0)
	}
}

func TestGainWhereNothingIsFree(t *testing.T) {
	benchOf(t, full()).gain(0)
	benchOf(t, laid(289, thing{1, 288, 1})).gain(0)
	benchOf(t, laid(400, thing{3, 288, 5}, thing{1, 293, 7}, thing{2, 300, 100})).gain(0)
}

// One run is as long as it can be, wherever it is: ahead of all objects, between them, or behind them.
func TestGainOfOneRun(t *testing.T) {
	for _, size := range []int{1, 10, 111} {
		benchOf(t, laid(400, thing{5, 400 - size, size})).gain(0)
		benchOf(t, laid(400, thing{5, 288, size})).gain(0)
	}
	benchOf(t, laid(400, thing{5, 288, 30}, thing{4, 330, 70})).gain(0)
	benchOf(t, laid(400, thing{5, 288, 1}, thing{4, 399, 1})).gain(0)
	benchOf(t, laid(400, thing{5, 289, 1}, thing{4, 290, 110})).gain(0)
	benchOf(t, many(0)).gain(0)
	s := benchOf(t, laid(400, thing{5, 300, 30}, thing{4, 330, 70})) // there are steps, and they gain nothing
	s.gain(0)
	s.step(5, 288)
	s.gain(0)
	s.step(4, 318)
	s.gain(0)
}

func TestGainOfPieces(t *testing.T) {
	for _, c := range []struct {
		things []thing
		want   int
	}{
		{[]thing{{1, 289, 110}}, 1},                                       // 1 and 1
		{[]thing{{1, 289, 1}}, 1},                                         // 1 and 110
		{[]thing{{1, 398, 1}}, 1},                                         // 110 and 1
		{[]thing{{1, 343, 1}}, 55},                                        // 55 and 56
		{[]thing{{9, 298, 50}, {2, 358, 32}}, 20},                         // 10, 10 and 10
		{[]thing{{9, 298, 50}, {2, 359, 31}}, 20},                         // 10, 11 and 10
		{[]thing{{9, 293, 5}, {2, 318, 5}, {1, 326, 5}}, 28},              // 5, 20, 3 and 69
		{[]thing{{9, 293, 5}, {2, 368, 5}, {1, 376, 5}}, 27},              // 5, 70, 3 and 19
		{[]thing{{9, 358, 5}, {2, 364, 5}, {1, 376, 5}}, 27},              // 70, 1, 7 and 19
		{[]thing{{9, 288, 5}, {2, 298, 5}, {1, 308, 92}}, 5},              // 5 and 5
		{[]thing{{9, 288, 5}, {2, 298, 5}, {1, 303, 5}, {4, 310, 90}}, 2}, // 5 and 2
	} {
		s := benchOf(t, laid(400, c.things...))
		s.gain(c.want)
		s.all(len(c.things) - countFirst(c.things))
	}
	benchOf(t, some()).gain(2)
	benchOf(t, many(2)).gain(80) // 40 runs of 2, and 32 behind the last one: 112 in all
}

// countFirst counts those that stand close together from Head on.
func countFirst(things []thing) int {
	at := 288
	for i, o := range things {
		if o.at != at {
			return i
		}
		at += o.size
	}
	return len(things)
}

// With each Step there is less to gain, or as much; behind the last there is nothing.
func TestGainFromStepToStep(t *testing.T) {
	s := benchOf(t, laid(400, thing{9, 293, 5}, thing{2, 318, 5}, thing{1, 326, 5}, thing{4, 390, 10}))
	s.gain(28) // 5, 20, 3 and 59
	s.step(9, 288)
	s.gain(28) // 25, 3 and 59
	s.step(2, 293)
	s.gain(28) // 28 and 59
	s.step(1, 298)
	s.gain(0) // 87
	s.step(4, 303)
	s.gain(0)
	s.noStep()
}

// What is ahead of Head is nobody's room: no run begins there.
func TestGainCountsBehindHeadAlone(t *testing.T) {
	benchOf(t, laid(300, thing{1, 294, 3})).gain(3) // 6 and 3
	benchOf(t, laid(6400, thing{1, 5400, 1000})).gain(0)
	benchOf(t, laid(6400, thing{1, 3000, 1000})).gain(2400) // 2712 and 2400
	benchOf(t, laid(6400, thing{1, 288, 100}, thing{2, 500, 10})).gain(112)
}
