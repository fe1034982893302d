package merge_test

import (
	"testing"
)

// Objects as both made them of one base: what is x and what is y, and what neither touched stays beside it.
var (
	left  = thing{1, 1, "left"}
	x     = thing{5, 3, "xx"}
	y     = thing{5, 3, "yy"}
	z     = thing{5, 4, "xx"}
	u     = thing{5, 3, "xxx"}
	right = thing{40, 15, "right"}
)

// beside gives a world with the things between two that nobody touches.
func beside(things ...thing) world {
	w := of(left)
	w.things = append(w.things, things...)
	w.things = append(w.things, right)
	return w
}

func TestNothingChanged(t *testing.T) {
	for _, w := range []world{of(), of(x), beside(), beside(x), beside(x).led(lead{"a", 5}, lead{"main", 1})} {
		wantMerged(t, 400, w, w, w, w)
		b := laid(t, 400, w, apart)
		wantThree(t, b, b, b, stood(t, 400, w)) // one list three times
	}
}

func TestSmallestAndGreatest(t *testing.T) {
	for _, n := range lengths {
		zeros := make([]byte, n)
		wantThree(t, zeros, zeros, zeros, zeros)
		wantThree(t, bare(n), zeros, bare(n), zeros) // what nobody has does not come along
		wantThree(t, zeros, bare(n), bare(n), zeros)
	}
	wantMerged(t, 289, of(), of(thing{7, 0, "a"}), of(), of(thing{7, 0, "a"}))
	wantMerged(t, 289, of(), of(), of(thing{7, 0, "a"}), of(thing{7, 0, "a"}))
	wantMerged(t, 289, of(thing{7, 0, "a"}), of(thing{8, 0, "b"}), of(thing{7, 0, "a"}), of(thing{8, 0, "b"}))
}

// Forty objects that have all bytes there are, of which each of the two changed every third one.
func TestAsManyAsThereAre(t *testing.T) {
	var base, a, b, want world
	for handle := 1; handle <= 40; handle++ {
		size := 3 // 6 of 1000 bytes, 33 of 3, and one of 13: 6112
		if handle <= 6 {
			size = 1000
		}
		if handle == 20 {
			size = 13
		}
		o := thing{handle, handle % 16, text(size, 0)}
		inA, inB, now := o, o, o
		switch handle % 3 {
		case 1:
			inA.body = text(size, 1)
			now = inA
		case 2:
			inB.body = text(size, 2)
			now = inB
		}
		base.things, a.things, b.things, want.things = append(base.things, o), append(a.things, inA), append(b.things, inB), append(want.things, now)
	}
	for i, name := range rootNames {
		base = base.led(lead{name, 40 - i})
		a = a.led(lead{name, 40 - i})
		b = b.led(lead{name, 40 - i})
	}
	for i := 7; i >= 0; i-- {
		want = want.led(lead{rootNames[i], 40 - i})
	}
	wantMerged(t, 6400, base, a, b, want)
}

func TestMovedInOneAlone(t *testing.T) {
	for _, other := range []thing{y, z, u, {5, 3, "x"}} { // other bytes, another tag, longer, shorter
		wantMerged(t, 400, beside(x), beside(other), beside(x), beside(other))
		wantMerged(t, 400, beside(x), beside(x), beside(other), beside(other))
	}
}

func TestMovedInBothToTheSame(t *testing.T) {
	for _, other := range []thing{y, z, u, {5, 3, "x"}} {
		wantMerged(t, 400, beside(x), beside(other), beside(other), beside(other))
	}
}

func TestMovedInBothToSomethingElse(t *testing.T) {
	others := []thing{y, z, u, {5, 3, "x"}, {5, 4, "yy"}}
	for i, one := range others {
		for k, other := range others {
			if i != k {
				wantMerged(t, 400, beside(x), beside(one), beside(other), beside(one), 5)
			}
		}
	}
}

func TestDropped(t *testing.T) {
	wantMerged(t, 400, beside(x), beside(), beside(x), beside()) // dropped in a, kept in b
	wantMerged(t, 400, beside(x), beside(x), beside(), beside())
	wantMerged(t, 400, beside(x), beside(), beside(), beside()) // in both: nobody has something else
}

func TestDroppedAndChanged(t *testing.T) {
	for _, other := range []thing{y, z, u} {
		wantMerged(t, 400, beside(x), beside(), beside(other), beside(), 5)
		wantMerged(t, 400, beside(x), beside(other), beside(), beside(other), 5)
	}
}

func TestNew(t *testing.T) {
	wantMerged(t, 400, beside(), beside(x), beside(), beside(x))
	wantMerged(t, 400, beside(), beside(), beside(x), beside(x))
	wantMerged(t, 400, beside(), beside(x), beside(x), beside(x)) // in both alike
	for _, other := range []thing{y, z, u} {                      // in both otherwise
		wantMerged(t, 400, beside(), beside(x), beside(other), beside(x), 5)
		wantMerged(t, 400, beside(), beside(other), beside(x), beside(other), 5)
	}
	wantMerged(t, 400, beside(), beside(thing{4, 1, "a"}), beside(thing{6, 1, "b"}), beside(thing{4, 1, "a"}, thing{6, 1, "b"}))
	wantMerged(t, 400, of(), of(thing{4, 1, "a"}), of(thing{4, 1, "\x00"}), of(thing{4, 1, "a"}), 4)
	wantMerged(t, 400, of(), of(thing{4, 0, "\x00"}), of(), of(thing{4, 0, "\x00"})) // one of zeros, of the tag 0, is one
}

// Each handle goes its own way, whatever becomes of others.
func TestSeveralAtOnce(t *testing.T) {
	base := of(thing{2, 1, "two"}, thing{3, 1, "three"}, thing{4, 1, "four"}, thing{5, 1, "five"}, thing{6, 1, "six"}, thing{7, 1, "seven"}, thing{8, 1, "eight"})
	a := of(thing{1, 0, "new of a"}, thing{2, 2, "two"}, thing{3, 1, "three"}, thing{4, 1, "a"}, thing{6, 1, "six"}, thing{7, 1, "alike"}, thing{8, 1, "eight of a"}, thing{9, 9, "a"})
	b := of(thing{9, 9, "b"}, thing{10, 0, "new of b"}, thing{2, 1, "two"}, thing{3, 1, "b"}, thing{4, 1, "b"}, thing{5, 1, "b"}, thing{7, 1, "alike"})
	want := of(thing{1, 0, "new of a"}, thing{2, 2, "two"}, thing{3, 1, "b"}, thing{4, 1, "a"}, thing{7, 1, "alike"}, thing{8, 1, "eight of a"}, thing{9, 9, "a"}, thing{10, 0, "new of b"})
	wantMerged(t, 400, base, a, b, want, 4, 5, 8, 9)
	turned := of(thing{1, 0, "new of a"}, thing{2, 2, "two"}, thing{3, 1, "b"}, thing{4, 1, "b"}, thing{5, 1, "b"}, thing{7, 1, "alike"}, thing{9, 9, "b"}, thing{10, 0, "new of b"})
	wantMerged(t, 400, base, b, a, turned, 4, 5, 8, 9)
}

func TestAllFortyTold(t *testing.T) {
	var base, a, b world
	var all []int
	for handle := 1; handle <= 40; handle++ {
		all = append(all, handle)
		base.things = append(base.things, thing{handle, 0, text(3, handle)})
		a.things = append(a.things, thing{handle, 1, text(3, handle)})
		b.things = append(b.things, thing{41 - handle, 2, text(3, handle)})
	}
	wantMerged(t, 408, base, a, b, a, all...)
	wantMerged(t, 408, of(), a, b, a, all...)
	wantMerged(t, 408, base, of(), b, of(), all...)
	wantMerged(t, 408, base, a, of(), a, all...)
	wantMerged(t, 408, base, a, a, a)
	wantMerged(t, 408, base, of(), of(), of())
}

// One that stands elsewhere was not moved: where b has changed it, b counts.
func TestStandingElsewhereIsNoChange(t *testing.T) {
	base := at(at(bare(400), 300, x), 320, left)
	a := at(at(bare(400), 350, x), 288, left)
	b := at(at(bare(400), 310, y), 300, left)
	wantThree(t, base, a, b, stood(t, 400, of(left, y)))
	wantThree(t, base, b, a, stood(t, 400, of(left, y)))
}
