package pages_test

import (
	"bytes"
	"slices"
	"testing"

	"vaultkeel/api"
	"vaultkeel/device"
)

// step of a device: a Write of a body to a sector; a Flush, if there is no body.
type step struct {
	sector int
	body   []byte
}

var flush = step{}

// disk tells how a device is to be, behind steps that are told.
type disk struct {
	sectors [][]byte
	log     []step // what was written since the last Flush
}

func (m *disk) do(s step) {
	if s.body != nil {
		m.log = append(m.log, s)
		return
	}
	for _, w := range m.log {
		m.sectors[w.sector] = w.body
	}
	m.log = nil
}

// goes is the step at which the power goes: a Write is in memory, a Flush does nothing.
func (m *disk) goes(s step) {
	if s.body != nil {
		m.do(s)
	}
}

func (m *disk) pending() (l []int) {
	for _, w := range m.log {
		if !slices.Contains(l, w.sector) {
			l = append(l, w.sector)
		}
	}
	return l
}

// crash keeps the first bytes of what is pending, of each as many as is told.
func (m *disk) crash(kept []int) {
	for k, i := range m.pending() {
		was := m.sectors[i]
		for _, w := range m.log {
			if w.sector == i {
				m.sectors[i] = slices.Concat(w.body[:kept[k]], was[kept[k]:])
			}
		}
	}
	m.log = nil
}

// loss is what a crash is told, of n that are pending: which are kept, which one is torn, and where.
type loss struct {
	keep      []bool
	torn, cut int
}

// kept tells how many of the first bytes of each are kept.
func (l loss) kept() (n []int) {
	for k, isKept := range l.keep {
		switch {
		case k == l.torn:
			n = append(n, l.cut)
		case isKept:
			n = append(n, 32)
		default:
			n = append(n, 0)
		}
	}
	return n
}

// losses of n that are pending: none kept, all kept, one alone kept, one alone not; and one torn at each of the cuts, with all others kept, or none of them.
func losses(n int, cuts ...int) (l []loss) {
	none, all := make([]bool, n), slices.Repeat([]bool{true}, n)
	l = append(l, loss{none, -1, 0}, loss{all, -1, 0})
	for k := range n {
		one, others := slices.Clone(none), slices.Clone(all)
		one[k], others[k] = true, false
		l = append(l, loss{one, -1, 0}, loss{others, -1, 0})
		for _, cut := range cuts {
			l = append(l, loss{none, k, cut}, loss{all, k, cut})
		}
	}
	return l
}

// wantSteps asks that what is run does just these steps, of a device as laid gives it: it makes the power go at each one, and behind the last.
func wantSteps(t *testing.T, laid func() *device.Device, run func(*device.Device) error, steps []step) {
	t.Helper()
	for k := range steps {
		wantStepsTill(t, laid, run, steps[:k], steps[k])
	}
	d := laid()
	m := &disk{sectors: sectors(t, d)}
	d.Fail(len(steps))
	wantTold(t, "with as many steps as are asked", run(d), api.OK)
	for _, s := range steps {
		m.do(s)
	}
	wantPending(t, d)
	if !same(sectors(t, d), m.sectors) {
		t.Errorf("behind all steps the sectors are others than are asked")
	}
	wantTold(t, "the step behind all that are asked", d.Flush(), api.ErrLost)
}

// wantStepsTill asks that steps are done, and then one at which the power goes; and what is on the device then, whatever is kept.
func wantStepsTill(t *testing.T, laid func() *device.Device, run func(*device.Device) error, steps []step, last step) {
	t.Helper()
	count := len(laid().Pending()) + len(steps) + 1
	for i := range len(losses(count, 9)) {
		d := laid()
		m := &disk{sectors: sectors(t, d)}
		d.Fail(len(steps))
		wantTold(t, "with the power gone", run(d), api.ErrLost)
		for _, s := range steps {
			m.do(s)
		}
		m.goes(last)
		wantPending(t, d, m.pending()...)
		all := losses(len(m.pending()), 9)
		if i >= len(all) {
			return
		}
		d.Crash(all[i].keep, all[i].torn, all[i].cut)
		m.crash(all[i].kept())
		for k, got := range sectors(t, d) {
			if !bytes.Equal(got, m.sectors[k]) {
				t.Errorf("%d steps, then %+v: sector %d: got %v, want %v", len(steps), all[i], k, got, m.sectors[k])
			}
		}
	}
}
