package pages_test

import (
	"testing"

	"vaultkeel/api"
	"vaultkeel/device"
	"vaultkeel/pages"
)

// power is a Commit, with a device behind Commits ahead of it, of which the power is to go.
type power struct {
	sectors, stamp int // the stamp ahead of it
	was, is        []api.Page
	cuts           []int
}

// laid gives a device of which the pages of was are committed, with the stamp.
func (c power) laid(t *testing.T) (*device.Device, *pages.Pages) {
	t.Helper()
	d := filled(t, c.sectors)
	marks := [][]byte{zeros, zeros}
	marks[(c.stamp-1)%2] = marked(c.stamp - 1)
	lay(t, d, map[int][]byte{0: marks[0], 1: marks[1]})
	p := opened(t, d)
	wantCommit(t, p, c.was, api.OK)
	wantStamp(t, p, c.stamp)
	return d, p
}

// state is what is in all pages, and the stamp.
type state struct {
	pages [][]byte
	stamp int
}

func stateOf(t *testing.T, p *pages.Pages) state {
	t.Helper()
	return state{contents(t, p), p.Stamp()}
}

func (s state) is(other state) bool { return s.stamp == other.stamp && same(s.pages, other.pages) }

// ends tells how it is ahead of the Commit, and behind it.
func (c power) ends(t *testing.T) (ahead, behind state) {
	t.Helper()
	_, p := c.laid(t)
	ahead = stateOf(t, p)
	wantCommit(t, p, c.is, api.OK)
	return ahead, stateOf(t, p)
}

// lost gives the device when the power has gone at a step of the Commit.
func (c power) lost(t *testing.T, k int) *device.Device {
	t.Helper()
	d, p := c.laid(t)
	d.Fail(k)
	wantCommit(t, p, c.is, api.ErrLost)
	return d
}

// steps that the Commit has: those of the bodies, twice, the mark, and three Flushes.
func (c power) steps() int { return 2*len(c.is) + 4 }

// wantState asks which of both it is: ahead of the mark nothing is there, behind it all, and while it is not yet flushed one of both.
func (c power) wantState(t *testing.T, k int, x loss, got, ahead, behind state) {
	t.Helper()
	mark := len(c.is) + 1 // the step at which the mark is written
	switch {
	case k < mark && !got.is(ahead):
		t.Errorf("power gone at step %d, ahead of the mark, %+v: not as it was ahead", k, x)
	case k > mark+1 && !got.is(behind):
		t.Errorf("power gone at step %d, behind the mark, %+v: not as it was committed", k, x)
	case !got.is(ahead) && !got.is(behind):
		t.Errorf("power gone at step %d, %+v: neither as it was ahead nor as it was committed", k, x)
	}
}

var everyCut = rising(33)

// cases with stamps of which one byte differs from the one two ahead, and of which several do.
func powers() []power {
	return []power{
		{51, 3, sheets(1, 0, 2), sheets(100, 2, 1), everyCut},
		{51, 4, sheets(1, 0, 1, 2), sheets(100, 1), everyCut},
		{51, 254, sheets(1, 0, 2), sheets(100, 2, 0, 1), everyCut},
		{51, 255, sheets(1, 1), sheets(100, 2, 0, 1), everyCut},
		{51, 256, sheets(1, 1), sheets(100, 2, 0), everyCut},
		{51, 0xffff, sheets(1, 1), sheets(100, 1), everyCut},
		{51, 0xffffff, sheets(1, 1, 0), sheets(100, 1, 2), everyCut},
		{51, 0x1000000, sheets(1, 1, 0), sheets(100, 1, 2), everyCut},
		{51, api.MaxStamp - 1, sheets(1, 1, 0), sheets(100, 1, 2), everyCut},
		{73, 3, sheets(1, rising(23)...), sheets(100, rising(23)...), []int{0, 1, 5, 28, 29, 31}},
		{73, 4, sheets(1, 24, 23), sheets(100, rising(23)...), []int{0, 4, 16, 31}},
	}
}

// Wherever the power goes, and whatever is kept, it is as it was ahead, or as it was committed; and goes on from there.
func TestAllOrNothing(t *testing.T) {
	for _, c := range powers() {
		ahead, behind := c.ends(t)
		for k := range c.steps() {
			for _, x := range losses(len(c.lost(t, k).Pending()), c.cuts...) {
				d := c.lost(t, k)
				d.Crash(x.keep, x.torn, x.cut)
				p := opened(t, d)
				got := stateOf(t, p)
				c.wantState(t, k, x, got, ahead, behind)
				if !stateOf(t, opened(t, d)).is(got) {
					t.Errorf("power gone at step %d, %+v: opened once more it is another", k, x)
				}
				if got.stamp == api.MaxStamp {
					continue
				}
				wantCommit(t, p, c.is, api.OK)
				if !same(contents(t, opened(t, d)), behind.pages) {
					t.Errorf("power gone at step %d, %+v: committed again it is not there", k, x)
				}
			}
		}
	}
}

// The power goes once more, at each step of Open: what was there to be opened still is.
func TestThePowerGoesInOpen(t *testing.T) {
	for _, c := range powers()[:4] {
		ahead, behind := c.ends(t)
		for k := range c.steps() {
			for _, x := range losses(len(c.lost(t, k).Pending()), 0, 5, 29) {
				crashed := func() *device.Device {
					d := c.lost(t, k)
					d.Crash(x.keep, x.torn, x.cut)
					return d
				}
				got := stateOf(t, opened(t, crashed()))
				c.wantState(t, k, x, got, ahead, behind)
				wantOpenedAgain(t, crashed, got)
			}
		}
	}
}

// wantOpenedAgain asks for a state behind an Open in which the power goes, at each of its steps, and another one.
func wantOpenedAgain(t *testing.T, crashed func() *device.Device, want state) {
	t.Helper()
	for k := 0; ; k++ {
		d := crashed()
		d.Fail(k)
		if openOf(d) == nil {
			return
		}
		for _, x := range losses(len(d.Pending()), 0, 16, 31) {
			d := crashed()
			d.Fail(k)
			p, err := pages.Open(d)
			wantNoPages(t, "Open", p, err, api.ErrLost)
			d.Crash(x.keep, x.torn, x.cut)
			if !stateOf(t, opened(t, d)).is(want) {
				t.Errorf("power gone at step %d of Open, %+v: opened again it is another", k, x)
			}
		}
	}
}

// The power goes in one Commit behind the other, each opened anew: there is never anything between.
func TestThePowerGoesAgainAndAgain(t *testing.T) {
	d, p := formatted(t, 52)
	now := stateOf(t, p)
	for round := range 500 {
		l := sheets(round%200, round%4, (round+1+round%3)%4)
		next := state{pages: contents(t, p), stamp: now.stamp + 1}
		for _, x := range l {
			next.pages[x.Number] = x.Body
		}
		d.Fail(round * 5 % 9)
		err := p.Commit(l)
		all := losses(len(d.Pending()), everyCut...)
		x := all[round*7%len(all)]
		d.Crash(x.keep, x.torn, x.cut)
		p = opened(t, d)
		got := stateOf(t, p)
		if !got.is(next) && (err == nil || !got.is(now)) {
			t.Fatalf("round %d, %+v: Commit said %v, and it is as at stamp %d, not %d or %d", round, x, err, got.stamp, now.stamp, next.stamp)
		}
		now = got
	}
	if now.stamp < 50 {
		t.Errorf("of 500 Commits but %d were there", now.stamp-2)
	}
}
