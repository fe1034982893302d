package store_test

import (
	"bytes"
	"math/rand"
	"slices"
	"testing"

	"vaultkeel/api"
	"vaultkeel/move"
	"vaultkeel/plain"
	"vaultkeel/reach"
	"vaultkeel/root"
	"vaultkeel/store"
)

// model is a bench, and what may be on its device.
type model struct {
	*bench
	may [][]byte // images: what was kept, and what Commits since in which the power went were to keep
}

// use does one drawn call on the Heap, or by way of it, whether or not it is a right one.
func (m *model) use(r *rand.Rand) {
	m.t.Helper()
	h, handle, size := m.store.Heap(), r.Intn(12), []int{60, 120, 1000}[r.Intn(3)]
	name := string(rune('a' + r.Intn(10)))
	switch r.Intn(12) {
	case 0, 1, 2:
		h.Alloc(r.Intn(size+2), r.Intn(17))
	case 3:
		h.Free(handle)
	case 4:
		root.Set(h, name, handle)
	case 5:
		root.Unset(h, name)
	case 6:
		move.Step(h)
	case 7:
		reach.Sweep(h)
	default:
		n, _ := h.Size(handle)
		h.Write(handle, r.Intn(4)-1, counted(r.Intn(255), r.Intn(n+2)))
	}
	m.now = h.Bytes() // what a call does to a Heap is no matter of a Store
	m.want("a drawn call on the Heap")
}

// keep does a Commit, of which the power may go, and tells what came of it.
func (m *model) keep() string {
	m.t.Helper()
	wasDown, n := m.device.Down(), len(differing(m.kept, m.now))
	err := m.store.Commit()
	switch {
	case n > 23:
		wantTold(m.t, "Commit of too many", err, api.ErrFull)
		m.want("Commit of too many")
		return "full"
	case wasDown:
		wantTold(m.t, "Commit of one that is down", err, api.ErrLost)
		m.want("Commit of one that is down")
		return "down"
	case m.device.Down():
		wantTold(m.t, "Commit with the power gone in it", err, api.ErrLost)
		m.want("Commit with the power gone in it")
		m.may = append(m.may, m.now)
		return "lost"
	}
	wantTold(m.t, "Commit", err, api.OK)
	if n == 0 {
		m.want("Commit of nothing")
		return "nothing"
	}
	if len(m.may) == 1 && m.store.Stamp() != m.stamp+1 || m.store.Stamp() <= m.stamp {
		m.t.Fatalf("Commit: Stamp: got %d, was %d", m.store.Stamp(), m.stamp)
	}
	m.kept, m.stamp, m.may = m.now, m.store.Stamp(), [][]byte{m.now}
	m.want("Commit")
	m.wantOnDevice("Commit")
	return "kept"
}

// crash loses what is pending, but for some of it, one of them torn.
func (m *model) crash(r *rand.Rand) {
	n := len(m.device.Pending())
	keep := make([]bool, n)
	for i := range keep {
		keep[i] = r.Intn(3) > 0
	}
	m.device.Crash(keep, r.Intn(n+3)-1, r.Intn(34)-1)
	m.want("a crash")
}

// open the Store anew, and ask that it has what it may have; the power may go in it.
func (m *model) open(r *rand.Rand) string {
	m.t.Helper()
	for r.Intn(3) == 0 {
		m.device.Fail(r.Intn(9))
		s, err := store.Open(m.device)
		if err != nil {
			wantNoStore(m.t, "Open with the power gone in it", s, err, api.ErrLost)
		}
		m.crash(r)
	}
	if m.device.Down() {
		m.crash(r)
	}
	m.device.Fail(-1)
	s := opened(m.t, m.device)
	got := stateOf(s)
	if !slices.ContainsFunc(m.may, func(b []byte) bool { return bytes.Equal(b, got.image) }) {
		m.t.Fatalf("Open: it is none of the %d that it may be", len(m.may))
	}
	if got.stamp < m.stamp || len(m.may) == 1 && got.stamp != m.stamp {
		m.t.Fatalf("Open: Stamp: got %d, was %d", got.stamp, m.stamp)
	}
	isNew := !bytes.Equal(got.image, m.kept)
	m.bench = benchOf(m.t, m.device, s, got.image, got.stamp)
	m.may = [][]byte{got.image}
	if isNew {
		return "opened as at the Commit"
	}
	return "opened as ahead of it"
}

// act does one drawn call that is a Store's or a device's, and tells what it was.
func (m *model) act(r *rand.Rand) string {
	m.t.Helper()
	switch r.Intn(10) {
	case 0:
		m.abort()
		return "abort"
	case 1, 2, 3:
		m.device.Fail(r.Intn(30))
		return "fail"
	case 4:
		m.crash(r)
		return "crash"
	case 5:
		return m.open(r)
	}
	return m.keep()
}

// Drawn calls, one behind the other: behind each of them all is told as images that were kept by hand tell it.
func TestDrawnCalls(t *testing.T) {
	r := rand.New(rand.NewSource(16))
	did := map[string]int{}
	for _, n := range []int{57, 58, 60, 80, 112, 300} {
		for range 20 {
			x := created(t, n)
			m := &model{x, [][]byte{x.kept}}
			for range 150 {
				for range r.Intn(8) {
					m.use(r)
				}
				did[m.act(r)]++
			}
		}
	}
	for _, what := range []string{"abort", "fail", "crash", "full", "down", "lost", "nothing", "kept", "opened as at the Commit", "opened as ahead of it"} {
		if did[what] < 60 {
			t.Errorf("%s was drawn %d times: the drawn calls do not ask enough", what, did[what])
		}
	}
}

// The same calls are answered the same, whatever was done with other Stores between.
func TestTheSameCallsAreAnsweredTheSame(t *testing.T) {
	play := func() (told []int, d [][]byte) {
		r := rand.New(rand.NewSource(3))
		x := created(t, 70)
		for range 200 {
			handle, _ := x.heap.Alloc(1+r.Intn(60), r.Intn(16))
			told = append(told, handle, int(plain.Told(x.heap.Write(r.Intn(9), r.Intn(9), counted(r.Intn(9), r.Intn(60))))))
			if r.Intn(3) == 0 {
				told = append(told, int(plain.Told(x.store.Commit())))
			}
			if r.Intn(9) == 0 {
				x.store.Abort()
			}
			told = append(append(told, x.store.Stamp()), x.store.Dirty()...)
		}
		return told, sectors(t, x.device)
	}
	one, first := play()
	created(t, 60).some()
	other, second := play()
	if !slices.Equal(one, other) || !same(first, second) {
		t.Errorf("the same calls are answered otherwise")
	}
}
