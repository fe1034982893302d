package device_test

import (
	"slices"
	"testing"

	"vaultkeel/api"
	"vaultkeel/device"
	"vaultkeel/plain"
)

// written is one Write that was not yet flushed.
type written struct {
	at   int
	body []byte
}

// model of a device that has no memory but the log of what was written since the last Flush.
type model struct {
	sectors [3][]byte
	log     []written
	till    int
	isOn    bool
}

func newModel() *model {
	return &model{sectors: [3][]byte{zeros, zeros, zeros}, till: -1, isOn: true}
}

// goes counts a step down, and tells whether the power goes at it.
func (m *model) goes() bool {
	if m.till < 0 {
		return false
	}
	if m.till == 0 {
		m.isOn = false
		return true
	}
	m.till--
	return false
}

func (m *model) pending() (l []int) {
	for _, w := range m.log {
		if !slices.Contains(l, w.at) {
			l = append(l, w.at)
		}
	}
	return l
}

func (m *model) read(i int) []byte {
	b := m.sectors[i]
	for _, w := range m.log {
		if w.at == i {
			b = w.body
		}
	}
	return b
}

func (m *model) write(i int, b []byte) api.Errno {
	if i < 0 || i > 2 {
		return api.ErrRange
	}
	if len(b) != 32 {
		return api.ErrShape
	}
	if !m.isOn {
		return api.ErrLost
	}
	m.log = append(m.log, written{i, b})
	if m.goes() {
		return api.ErrLost
	}
	return api.OK
}

func (m *model) flush() api.Errno {
	if !m.isOn || m.goes() {
		return api.ErrLost
	}
	m.sectors = [3][]byte{m.read(0), m.read(1), m.read(2)}
	m.log = nil
	return api.OK
}

func (m *model) fail(n int) { m.till = n }

func (m *model) crash(keep []bool, torn, cut int) int {
	l := m.pending()
	next := m.sectors
	for k, i := range l {
		came := 0
		if k < len(keep) && keep[k] {
			came = 32
		}
		if k == torn {
			came = min(max(cut, 0), 32)
		}
		next[i] = mixed(m.read(i), m.sectors[i], came)
	}
	*m = model{sectors: next, till: -1, isOn: true}
	return len(l)
}

// act does one thing with both, and tells what each answers.
type act func(d *device.Device, m *model) (got, want int)

func acts() []act {
	write := func(i int, b []byte) act {
		return func(d *device.Device, m *model) (int, int) {
			return int(plain.Told(d.Write(i, b))), int(m.write(i, b))
		}
	}
	fail := func(n int) act {
		return func(d *device.Device, m *model) (int, int) {
			d.Fail(n)
			m.fail(n)
			return 0, 0
		}
	}
	crash := func(keep []bool, torn, cut int) act {
		return func(d *device.Device, m *model) (int, int) {
			return d.Crash(keep, torn, cut), m.crash(keep, torn, cut)
		}
	}
	return []act{
		write(0, body(1)), write(2, body(2)), write(0, body(3)), write(3, body(4)), write(1, body(5)[:31]),
		func(d *device.Device, m *model) (int, int) { return int(plain.Told(d.Flush())), int(m.flush()) },
		fail(0), fail(1), fail(-1),
		crash(nil, -1, 9), crash([]bool{true}, 1, 5), crash([]bool{true, true, true}, 0, 20),
	}
}

// sameAs tells whether all that can be asked of the device is as the model says.
func sameAs(d *device.Device, m *model) bool {
	if d.Len() != 3 || d.Down() == m.isOn || d.Left() != m.till || !slices.Equal(d.Pending(), m.pending()) {
		return false
	}
	for i := range 3 {
		b, err := d.Read(i)
		if m.isOn && (err != nil || !slices.Equal(b, m.read(i))) {
			return false
		}
		if !m.isOn && (plain.Told(err) != api.ErrLost || b != nil) {
			return false
		}
	}
	return true
}

// Every five acts, one behind the other, come out as the model says.
func TestEveryFiveActs(t *testing.T) {
	all := acts()
	total := 1
	for range 5 {
		total *= len(all)
	}
	for code := range total {
		d, m := made(t, 3), newModel()
		for rest, k := code, 0; k < 5; rest, k = rest/len(all), k+1 {
			got, want := all[rest%len(all)](d, m)
			if got != want || !sameAs(d, m) {
				t.Fatalf("acts %d, the one at %d: got %d, want %d; pending %v, want %v", code, k, got, want, d.Pending(), m.pending())
			}
		}
	}
}
