package pages_test

import (
	"math"
	"testing"

	"vaultkeel/api"
	"vaultkeel/device"
	"vaultkeel/pages"
)

// filled gives a device of n sectors, with other bytes than 0 in all of them.
func filled(t *testing.T, n int) *device.Device {
	t.Helper()
	d := made(t, n)
	l := map[int][]byte{}
	for i := range n {
		l[i] = body(i)
	}
	lay(t, d, l)
	return d
}

func formatOf(d *device.Device) error {
	_, err := pages.Format(d)
	return err
}

func TestFormatLen(t *testing.T) {
	for _, c := range []struct{ sectors, want int }{{49, 1}, {50, 2}, {72, 24}, {247, 199}, {248, 200}, {249, 200}, {300, 200}} {
		_, p := formatted(t, c.sectors)
		if p.Len() != c.want {
			t.Errorf("Len on %d sectors: got %d, want %d", c.sectors, p.Len(), c.want)
		}
		wantStamp(t, p, 2)
		wantRead(t, p, c.want-1, zeros, api.OK)
		wantRead(t, p, c.want, nil, api.ErrRange)
	}
}

func TestFormatOfTooFewSectors(t *testing.T) {
	for _, n := range []int{1, 2, 24, 47, 48} {
		d := filled(t, n)
		was := sectors(t, d)
		d.Fail(0)
		p, err := pages.Format(d)
		wantNoPages(t, "Format", p, err, api.ErrRange)
		wantPending(t, d)
		if d.Down() {
			t.Errorf("Format of %d sectors did a step", n)
		}
		wantSectors(t, d, was, nil)
		pull(d)
		p, err = pages.Format(d)
		wantNoPages(t, "Format of one that is down", p, err, api.ErrRange)
	}
}

func TestFormatLaysMarks(t *testing.T) {
	for _, n := range []int{49, 60, 300} {
		d := filled(t, n)
		was := sectors(t, d)
		p := format(t, d)
		wantPending(t, d)
		wantSectors(t, d, was, map[int][]byte{
			0: {2, 0, 0, 0, 0, 0, 0, 0, 0, 0, 0, 0, 0, 0, 0, 0, 0, 0, 0, 0, 0, 0, 0, 0, 0, 0, 0, 0, 2, 0, 0, 0},
			1: zeros,
		})
		wantRead(t, p, 0, body(48), api.OK)
	}
}

func TestFormatSteps(t *testing.T) {
	wantSteps(t, func() *device.Device { return filled(t, 50) }, formatOf,
		[]step{{0, marked(2)}, {1, zeros}, flush})
}

func TestFormatOfWhatWasUsed(t *testing.T) {
	d, p := formatted(t, 52)
	for c := range 5 {
		wantCommit(t, p, sheets(c, 1, 0), api.OK)
	}
	p = format(t, d)
	wantStamp(t, p, 2)
	wantStamp(t, opened(t, d), 2)
	wantRead(t, p, 1, body(4), api.OK)
	wantCommit(t, p, sheets(9, 2), api.OK)
	wantStamp(t, opened(t, d), 3)
}

func TestFormatOfOneThatIsDown(t *testing.T) {
	d := made(t, 60)
	pull(d)
	p, err := pages.Format(d)
	wantNoPages(t, "Format", p, err, api.ErrLost)
	wantPending(t, d)
	for n := range 3 {
		d := made(t, 60)
		d.Fail(n)
		p, err := pages.Format(d)
		wantNoPages(t, "Format", p, err, api.ErrLost)
	}
	d = made(t, 60)
	d.Fail(3)
	wantTold(t, "Format", formatOf(d), api.OK)
}

func TestRead(t *testing.T) {
	d, p := formatted(t, 53)
	for i := range 5 {
		lay(t, d, map[int][]byte{48 + i: body(i)})
	}
	for i := range 5 {
		wantRead(t, p, i, body(i), api.OK)
	}
	for _, i := range []int{-1, 5, 6, -48, -47, 200, 1 << 32, math.MaxInt, math.MaxInt - 47, math.MinInt} {
		wantRead(t, p, i, nil, api.ErrRange)
	}
	if err := d.Write(50, body(9)); err != nil {
		t.Fatal(err)
	}
	wantRead(t, p, 2, body(9), api.OK) // what stands there, flushed or not
	pull(d)
	for i := range 5 {
		wantRead(t, p, i, nil, api.ErrLost)
	}
	for _, i := range []int{-1, 5, math.MaxInt, math.MinInt} {
		wantRead(t, p, i, nil, api.ErrRange)
	}
	if p.Len() != 5 {
		t.Errorf("Len of one that is down: got %d, want 5", p.Len())
	}
	wantStamp(t, p, 2)
}

func TestReadOfTheLastPages(t *testing.T) {
	d, p := formatted(t, 300)
	lay(t, d, map[int][]byte{247: body(1), 248: body(2)})
	wantRead(t, p, 199, body(1), api.OK)
	wantRead(t, p, 200, nil, api.ErrRange)
	wantRead(t, p, 251, nil, api.ErrRange)
}

func TestReadGivesFreshMemory(t *testing.T) {
	_, p := formatted(t, 50)
	wantCommit(t, p, sheets(1, 0), api.OK)
	one, err := p.Read(0)
	two, bad := p.Read(0)
	if err != nil || bad != nil {
		t.Fatalf("Read: %v, %v", err, bad)
	}
	clear(one[:cap(one)])
	if string(two) != string(body(1)) {
		t.Errorf("two answers of Read share memory: %v", two)
	}
	wantRead(t, p, 0, body(1), api.OK)
	wantCommit(t, p, sheets(2, 0), api.OK)
	if string(two) != string(body(1)) {
		t.Errorf("what was read has changed later: %v", two)
	}
}

func TestPagesOfTwoDevicesAreApart(t *testing.T) {
	_, p := formatted(t, 50)
	_, q := formatted(t, 51)
	wantCommit(t, p, sheets(1, 0), api.OK)
	wantRead(t, q, 0, zeros, api.OK)
	wantStamp(t, q, 2)
	if p.Len() != 2 || q.Len() != 3 {
		t.Errorf("Len: got %d and %d, want 2 and 3", p.Len(), q.Len())
	}
}
