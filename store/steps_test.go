package store_test

import (
	"bytes"
	"slices"
	"testing"

	"vaultkeel/api"
	"vaultkeel/device"
)

// step of a device: a Write of a body to a sector; a Flush, if there is no body.
type step struct {
	sector int
	body   []byte
}

var flush = step{}

// disk tells how a device is to be, behind steps that are told.
type disk struct {
	sectors [][]byte
	log     []step // what was written since the last Flush
}

func (m *disk) do(s step) {
	if s.body != nil {
		m.log = append(m.log, s)
		return
	}
	for _, w := range m.log {
		m.sectors[w.sector] = w.body
	}
	m.log = nil
}

// goes is the step at which the power goes: a Write is in memory, a Flush does nothing.
func (m *disk) goes(s step) {
	if s.body != nil {
		m.do(s)
	}
}

func (m *disk) pending() (l []int) {
	for _, w := range m.log {
		l = append(l, w.sector)
	}
	return l
}

// crash keeps the first bytes of what is pending, of each as many as is told.
func (m *disk) crash(kept []int) {
	for k, w := range m.log {
		m.sectors[w.sector] = slices.Concat(w.body[:kept[k]], m.sectors[w.sector][kept[k]:])
	}
	m.log = nil
}

// loss is what a crash is told, of n that are pending: which are kept, which one is torn, and where.
type loss struct {
	keep      []bool
	torn, cut int
}

// kept tells how many of the first bytes of each are kept.
func (l loss) kept() (n []int) {
	for k, isKept := range l.keep {
		switch {
		case k == l.torn:
			n = append(n, l.cut)
		case isKept:
			n = append(n, 32)
		default:
			n = append(n, 0)
		}
	}
	return n
}

// losses of n that are pending: none kept, all kept, one alone kept, one alone not; and one torn at each of the cuts, with all others kept, or none of them.
func losses(n int, cuts ...int) (l []loss) {
	none, all := make([]bool, n), slices.Repeat([]bool{true}, n)
	l = append(l, loss{none, -1, 0}, loss{all, -1, 0})
	for k := range n {
		one, others := slices.Clone(none), slices.Clone(all)
		one[k], others[k] = true, false
		l = append(l, loss{one, -1, 0}, loss{others, -1, 0})
		for _, cut := range cuts {
			l = append(l, loss{none, k, cut}, loss{all, k, cut})
		}
	}
	return l
}

// few are the losses that matter most where all would take too long: none kept, all kept, some of them, the last one torn.
func few(n int, cuts ...int) []loss {
	none, all, some := make([]bool, n), slices.Repeat([]bool{true}, n), make([]bool, n)
	for k := range some {
		some[k] = k%3 != 1
	}
	l := []loss{{none, -1, 0}, {all, -1, 0}, {some, -1, 0}}
	for _, cut := range cuts {
		l = append(l, loss{none, n - 1, cut}, loss{all, n - 1, cut}, loss{some, n - 1, cut})
	}
	return l
}

// deed is what is to be run on a device that is laid for it.
type deed func() (*device.Device, func() error)

// wantSteps asks that what is run does just these steps: it makes the power go at each one, and behind the last.
func wantSteps(t *testing.T, laid deed, steps []step, lost func(n int, cuts ...int) []loss) {
	t.Helper()
	for k := range steps {
		wantStepsTill(t, laid, steps[:k], steps[k], lost)
	}
	d, run := laid()
	m := &disk{sectors: sectors(t, d)}
	d.Fail(len(steps))
	wantTold(t, "with as many steps as are asked", run(), api.OK)
	for _, s := range steps {
		m.do(s)
	}
	wantPending(t, d)
	if !same(sectors(t, d), m.sectors) {
		t.Errorf("behind all steps the sectors are others than are asked")
	}
	wantTold(t, "the step behind all that are asked", d.Flush(), api.ErrLost)
}

// wantStepsTill asks that steps are done, and then one at which the power goes; and what is on the device then, whatever is kept.
func wantStepsTill(t *testing.T, laid deed, steps []step, last step, lost func(n int, cuts ...int) []loss) {
	t.Helper()
	for i, left := 0, 1; i < left; i++ {
		d, run := laid()
		m := &disk{sectors: sectors(t, d)}
		d.Fail(len(steps))
		wantTold(t, "with the power gone", run(), api.ErrLost)
		for _, s := range steps {
			m.do(s)
		}
		m.goes(last)
		wantPending(t, d, m.pending()...)
		all := lost(len(m.pending()), 9)
		left = len(all)
		d.Crash(all[i].keep, all[i].torn, all[i].cut)
		m.crash(all[i].kept())
		for k, got := range sectors(t, d) {
			if !bytes.Equal(got, m.sectors[k]) {
				t.Fatalf("%d steps, then %+v: sector %d: got %v, want %v", len(steps), all[i], k, got, m.sectors[k])
			}
		}
	}
}

// commitSteps are those of a Commit that keeps an image in place of another one: its pages on the shelf of the stamp's side, the mark, and the pages where they belong.
func commitSteps(was, now []byte, stamp int) (l []step) {
	numbers := differing(was, now)
	side := stamp % 2
	mark := []byte{byte(len(numbers))}
	var home []step
	for k, i := range numbers {
		body := now[32*i : 32*i+32]
		l = append(l, step{2 + 23*side + k, body})
		home = append(home, step{48 + i, body})
		mark = append(mark, byte(i))
	}
	l = append(l, flush, step{side, marked(stamp, mark...)}, flush)
	return append(append(l, home...), flush)
}
