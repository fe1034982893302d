package store_test

import (
	"bytes"
	"slices"
	"testing"

	"vaultkeel/api"
	"vaultkeel/device"
	"vaultkeel/store"
)

// state is what a Heap has, and the stamp.
type state struct {
	image []byte
	stamp int
}

func stateOf(s *store.Store) state { return state{s.Heap().Bytes(), s.Stamp()} }

func (a state) is(b state) bool { return a.stamp == b.stamp && bytes.Equal(a.image, b.image) }

// outage is a Commit of which the power is to go, of a Store behind other Commits.
type outage struct {
	what   string
	laid   func(*testing.T) *bench
	change func(*bench)
	lost   func(n int, cuts ...int) []loss
	cuts   []int
}

// changed gives the Store ahead of the Commit, with all that it is to keep done.
func (o outage) changed(t *testing.T) *bench {
	t.Helper()
	x := o.laid(t)
	o.change(x)
	return x
}

// gone gives the Store when the power has gone at a step of the Commit.
func (o outage) gone(t *testing.T, k int) *bench {
	t.Helper()
	x := o.changed(t)
	x.device.Fail(k)
	wantTold(t, "Commit with the power gone in it", x.store.Commit(), api.ErrLost)
	x.want("Commit with the power gone in it")
	return x
}

// losses that may be when the power has gone at a step.
func (o outage) losses(t *testing.T, k int) []loss {
	t.Helper()
	return o.lost(len(o.gone(t, k).device.Pending()), o.cuts...)
}

// back gives the Store when the power has come back.
func (o outage) back(t *testing.T, k int, x loss) *bench {
	t.Helper()
	b := o.gone(t, k)
	b.device.Crash(x.keep, x.torn, x.cut)
	return b
}

// ends tells how it is ahead of the Commit, and behind it, and how many pages it has.
func (o outage) ends(t *testing.T) (ahead, behind state, n int) {
	t.Helper()
	x := o.changed(t)
	return state{x.kept, x.stamp}, state{x.now, x.stamp + 1}, len(differing(x.kept, x.now))
}

// some60 gives a Store with three objects and two roots.
func some60(t *testing.T) *bench {
	t.Helper()
	x := created(t, 60)
	x.some()
	return x
}

// twice gives one behind one more Commit, so that the next mark is on the other side.
func twice(t *testing.T) *bench {
	t.Helper()
	x := some60(t)
	x.write(1, 288, 3, counted(4, 20))
	x.commit()
	return x
}

// greatStamp gives one whose next stamp has other bytes than the one ahead on all places but one.
func greatStamp(t *testing.T) *bench {
	t.Helper()
	d := holding(t, right())
	lay(t, d, map[int][]byte{1: marked(0xffffff)})
	return openedOn(t, d, right(), 0xffffff)
}

func several(x *bench) {
	x.t.Helper()
	x.write(1, 288, 0, counted(6, 32))
	x.alloc(20, 1, 2, 320)
	x.set(2, "b", 2)
}

var edges = []int{0, 1, 4, 5, 16, 28, 29, 31}

// snapped gives, each time, the same Store as it is opened, without laying all of it again.
func snapped(t *testing.T, laid func(*testing.T) *bench) func(*testing.T) *bench {
	t.Helper()
	x := laid(t)
	return func(t *testing.T) *bench {
		t.Helper()
		return openedOn(t, twin(t, x.device), x.kept, x.stamp)
	}
}

func outages(t *testing.T) []outage {
	t.Helper()
	one, other := snapped(t, some60), snapped(t, twice)
	return []outage{
		{"one page of a new one", func(t *testing.T) *bench { return created(t, 58) }, func(x *bench) { x.alloc(5, 1, 1, 288) }, losses, from(0, 33, 1)},
		{"one page", one, func(x *bench) { x.write(3, 340, 0, counted(6, 12)) }, losses, from(0, 33, 1)},
		{"several pages", one, several, losses, edges},
		{"several pages, on the other side", other, several, losses, edges},
		{"a great stamp", snapped(t, greatStamp), func(x *bench) { x.free(2); x.alloc(9, 9, 2, 298) }, losses, from(0, 33, 1)},
		{"all that may be", snapped(t, wide), func(x *bench) { x.write(1, 288, 0, counted(1, 23*32)) }, few, edges},
	}
}

// wantState asks which of both it is: ahead of the mark nothing is there, behind it all, and while it is not yet flushed one of both.
func wantState(t *testing.T, k, n int, got, ahead, behind state) {
	t.Helper()
	mark := n + 1 // the step at which the mark is written
	switch {
	case k < mark && !got.is(ahead):
		t.Errorf("ahead of the mark it is not as it was ahead")
	case k > mark+1 && !got.is(behind):
		t.Errorf("behind the mark it is not as it was committed")
	case !got.is(ahead) && !got.is(behind):
		t.Errorf("it is neither as it was ahead nor as it was committed")
	}
}

// each runs a test for each outage, each step of it, and each loss.
func each(t *testing.T, l []outage, run func(o outage, k int, x loss)) {
	t.Helper()
	for _, o := range l {
		_, _, n := o.ends(t)
		for k := range 2*n + 4 {
			for _, x := range o.losses(t, k) {
				run(o, k, x)
				if t.Failed() {
					t.Fatalf("%s, the power gone at step %d, %+v", o.what, k, x)
				}
			}
		}
	}
}

func TestAllOrNothing(t *testing.T) {
	each(t, outages(t), func(o outage, k int, x loss) {
		ahead, behind, n := o.ends(t)
		d := o.back(t, k, x).device
		got := stateOf(opened(t, d))
		wantState(t, k, n, got, ahead, behind)
		b := openedOn(t, d, got.image, got.stamp)
		if got.is(ahead) {
			o.change(b)
		} else {
			b.write(1, 288, 0, []byte{99})
		}
		b.commit()
		openedOn(t, d, b.kept, b.stamp)
	})
}

// The power goes once more, at each step of Open: what was there to be opened still is.
func TestThePowerGoesInOpen(t *testing.T) {
	l := outages(t)[1:5]
	for i := range l {
		l[i].lost, l[i].cuts = few, []int{5, 29}
	}
	each(t, l, func(o outage, k int, x loss) {
		ahead, behind, n := o.ends(t)
		d := o.back(t, k, x).device
		crashed := func() *device.Device { return twin(t, d) }
		got := stateOf(opened(t, crashed()))
		wantState(t, k, n, got, ahead, behind)
		wantOpenedAgain(t, crashed, got)
	})
}

// wantOpenedAgain asks for a state behind an Open in which the power goes, at each of its steps, and another one.
func wantOpenedAgain(t *testing.T, crashed func() *device.Device, want state) {
	t.Helper()
	for k := 0; ; k++ {
		d := crashed()
		d.Fail(k)
		if openOn(d)() == nil {
			return
		}
		for _, x := range few(len(d.Pending()), 0, 16) {
			d := crashed()
			d.Fail(k)
			s, err := store.Open(d)
			wantNoStore(t, "Open with the power gone in it", s, err, api.ErrLost)
			d.Crash(x.keep, x.torn, x.cut)
			openedOn(t, d, want.image, want.stamp).commit()
			if t.Failed() {
				t.Fatalf("power gone at step %d of Open, %+v", k, x)
			}
		}
	}
}

// What is done with what was opened is kept likewise: the power goes in its Commit, too.
func TestThePowerGoesAgainBehindOpen(t *testing.T) {
	l := outages(t)[1:4]
	for i := range l {
		l[i].lost, l[i].cuts = few, []int{16}
	}
	each(t, l, func(o outage, k int, x loss) {
		d := o.back(t, k, x).device
		next := outage{
			laid: func(t *testing.T) *bench {
				d := twin(t, d)
				got := stateOf(opened(t, d))
				return openedOn(t, d, got.image, got.stamp)
			},
			change: func(x *bench) { x.write(1, 288, 7, counted(9, 3)); x.write(3, 340, 2, counted(9, 3)) },
			lost:   few,
			cuts:   []int{5, 28},
		}
		ahead, behind, n := next.ends(t)
		for j := range 2*n + 4 {
			for _, y := range next.losses(t, j) {
				wantState(t, j, n, stateOf(opened(t, next.back(t, j, y).device)), ahead, behind)
			}
		}
	})
}

// The power goes in a Commit and comes back, and nobody opens the Store: its next Commit is kept all the same.
func TestTheStoreGoesOnBehindAnOutage(t *testing.T) {
	l := outages(t)
	for i := range l {
		l[i].cuts = []int{1, 16, 29}
	}
	each(t, l, func(o outage, k int, x loss) {
		again := o.back(t, k, x)
		again.commit()
		again.write(1, 288, 0, []byte{98})
		again.commit()

		other := o.back(t, k, x)
		other.abort()
		other.wantNothingToCommit()
		other.instead()
		other.wantCommitted()
		other.write(1, 288, 4, []byte{97})
		other.commit()

		more := o.back(t, k, x)
		more.write(1, 288, 1, []byte{96})
		if len(more.store.Dirty()) <= 23 {
			more.wantCommitted()
		}
	})
}

// instead does what no outage does, in other pages where there are others.
func (x *bench) instead() {
	x.t.Helper()
	if len(x.now) == 64*32 {
		x.write(1, 288, 20*32, counted(5, 11*32))
		return
	}
	if _, err := x.heap.Size(1); err != nil {
		x.alloc(32, 2, 1, 288)
	}
	x.write(1, 288, 2, counted(5, 2))
}

// wantCommitted asks for a Commit that says nothing, and that all is kept; with whatever stamp, as the one ahead may have taken the next one.
func (x *bench) wantCommitted() {
	x.t.Helper()
	wantTold(x.t, "Commit", x.store.Commit(), api.OK)
	x.kept, x.stamp = x.now, max(x.stamp+1, x.store.Stamp())
	x.want("Commit")
	x.wantOnDevice("Commit")
}

// Nobody opens the Store, and the power goes in its next Commit, too: it is as at the last Commit that said nothing, or as at one in which the power went.
func TestThePowerGoesAgainWithoutOpen(t *testing.T) {
	l := outages(t)[1:]
	for i := range l {
		l[i].lost, l[i].cuts = few, []int{16}
	}
	l[4].lost = func(n int, _ ...int) []loss { return few(n)[:2] }
	each(t, l, func(o outage, k int, x loss) {
		if o.what == "all that may be" && k < 24 && k%6 != 0 {
			return // they are alike, as nothing of them is there
		}
		ahead, behind, _ := o.ends(t)
		for j := 0; ; j += 1 + j/8 {
			b := o.back(t, k, x)
			b.abort()
			b.instead()
			b.device.Fail(j)
			if b.store.Commit() == nil {
				return
			}
			b.want("Commit with the power gone again")
			b.device.Crash(few(len(b.device.Pending()))[j%3].keep, j%5-1, j%32)
			got := opened(t, twin(t, b.device)).Heap().Bytes()
			if !bytes.Equal(got, ahead.image) && !bytes.Equal(got, behind.image) && !bytes.Equal(got, b.now) {
				t.Errorf("the power gone again at step %d: it is none of what it may be", j)
			}
			b.wantCommitted()
		}
	})
}

// Pages of two Commits, of which the first one failed, are more than may be committed at once: those of the second are not.
func TestTheStoreGoesOnWithOtherPages(t *testing.T) {
	for k := range 2*20 + 4 {
		for _, keep := range [][]bool{nil, slices.Repeat([]bool{true}, 60)} {
			x := wide(t)
			x.touch(1, from(9, 20, 1)...)
			x.device.Fail(k)
			x.fail(api.ErrLost)
			x.device.Crash(keep, -1, 0)
			x.abort()
			x.touch(2, from(9, 12, 1)...)
			x.touch(2, from(29, 11, 1)...)
			x.wantCommitted()
			x.touch(3, 9, 39)
			x.commit()
		}
	}
}

// Once the Store has gone on, a Commit has chapter 4's steps again, and no others.
func TestStepsOfAStoreThatHasGoneOn(t *testing.T) {
	laid := func() (*device.Device, func() error) {
		x := wide(t)
		x.touch(1, 10, 12)
		x.device.Fail(6)
		x.fail(api.ErrLost)
		x.device.Crash(nil, -1, 0)
		x.touch(2, 12, 14)
		x.wantCommitted()
		x.touch(3, 39, 11)
		return x.device, x.store.Commit
	}
	x := wide(t)
	x.touch(1, 10)
	x.touch(2, 12, 14)
	was := x.now
	x.touch(3, 11, 39)
	wantSteps(t, laid, commitSteps(was, x.now, 6), few)
}
