package pages_test

import (
	"slices"
	"testing"

	"vaultkeel/api"
	"vaultkeel/device"
	"vaultkeel/pages"
)

// full has so many numbers behind a first byte, all of page 0.
func full(first byte, n int) []byte { return append([]byte{first}, make([]byte, n)...) }

// withMarks gives a device of n sectors with other bytes than 0 in all of them, and marks by hand.
func withMarks(t *testing.T, n int, zero, one []byte) *device.Device {
	t.Helper()
	d := filled(t, n)
	lay(t, d, map[int][]byte{0: zero, 1: one})
	return d
}

func openOf(d *device.Device) error {
	_, err := pages.Open(d)
	return err
}

// wantNoMark asks that Open says ErrNone, and does nothing.
func wantNoMark(t *testing.T, what string, d *device.Device) {
	t.Helper()
	was := sectors(t, d)
	d.Fail(0)
	p, err := pages.Open(d)
	wantNoPages(t, what, p, err, api.ErrNone)
	wantPending(t, d)
	if d.Down() {
		t.Fatalf("%s: a step was done", what)
	}
	wantSectors(t, d, was, nil)
}

// wantOpened asks for a stamp, and which sectors are others then than they were; and that nothing more is another if it is opened once more.
func wantOpened(t *testing.T, d *device.Device, stamp int, now map[int][]byte) {
	t.Helper()
	was := sectors(t, d)
	for range 2 {
		p := opened(t, d)
		wantStamp(t, p, stamp)
		wantPending(t, d)
		wantSectors(t, d, was, now)
		if want := min(d.Len()-48, 200); p.Len() != want {
			t.Errorf("Len: got %d, want %d", p.Len(), want)
		}
	}
}

func TestOpenOfNoMark(t *testing.T) {
	wantNoMark(t, "all 0", made(t, 50))
	wantNoMark(t, "other bytes", filled(t, 50))
	wantNoMark(t, "marks of stamp 0", withMarks(t, 50, marked(0, 1, 0), marked(0, 1, 1)))
	torn := slices.Concat(marked(4)[:16], marked(2)[16:])
	wantNoMark(t, "torn marks", withMarks(t, 50, torn, torn))
	wantNoMark(t, "too many pages", withMarks(t, 50, marked(2, full(24, 23)...), marked(3, full(255, 23)...)))
	wantNoMark(t, "pages that are none", withMarks(t, 50, marked(2, 1, 2), marked(3, 2, 1, 2)))
}

func TestOpenOfTooFewSectors(t *testing.T) {
	for _, n := range []int{1, 2, 24, 47, 48} {
		d := filled(t, n)
		lay(t, d, map[int][]byte{0: marked(2)})
		was := sectors(t, d)
		d.Fail(0)
		p, err := pages.Open(d)
		wantNoPages(t, "Open", p, err, api.ErrRange)
		if d.Down() {
			t.Errorf("Open of %d sectors did a step", n)
		}
		wantSectors(t, d, was, nil)
		pull(d)
		p, err = pages.Open(d)
		wantNoPages(t, "Open of one that is down", p, err, api.ErrRange)
	}
	d := made(t, 49)
	lay(t, d, map[int][]byte{0: marked(2)})
	wantOpened(t, d, 2, nil)
}

func TestOpenOfWhatFormatMade(t *testing.T) {
	for _, n := range []int{49, 248, 249, 300} {
		d := filled(t, n)
		format(t, d)
		wantOpened(t, d, 2, nil)
	}
}

// One mark alone is right: it is taken, whatever its stamp and the other one is.
func TestOpenOfOneMark(t *testing.T) {
	torn := slices.Concat(marked(9, 1, 2)[:16], marked(7, 1, 2)[16:])
	for _, other := range [][]byte{zeros, body(3), torn, marked(0, 1, 2), marked(9, full(24, 23)...), marked(9, 1, 200), marked(9, 1, 255), marked(9, 1, 12)} {
		wantOpened(t, withMarks(t, 60, marked(4, 1, 5), other), 4, map[int][]byte{53: body(2)})
		wantOpened(t, withMarks(t, 60, other, marked(4, 1, 5)), 4, map[int][]byte{53: body(25)})
		wantOpened(t, withMarks(t, 60, marked(1, 1, 5), other), 1, map[int][]byte{53: body(2)})
		wantOpened(t, withMarks(t, 60, other, marked(1, 1, 5)), 1, map[int][]byte{53: body(25)})
	}
}

// Of both the one with the greater stamp is taken, whichever side it stands on; of equal ones the first.
func TestOpenOfBothMarks(t *testing.T) {
	for _, c := range []struct{ lesser, greater int }{{2, 3}, {1, 4}, {255, 256}, {2, 257}, {0xffff, 0x10000}, {0x01ffffff, 0x02000000}, {1, api.MaxStamp}, {1 << 31, api.MaxStamp}} {
		wantOpened(t, withMarks(t, 60, marked(c.lesser, 1, 5), marked(c.greater, 1, 6)), c.greater, map[int][]byte{54: body(25)})
		wantOpened(t, withMarks(t, 60, marked(c.greater, 1, 5), marked(c.lesser, 1, 6)), c.greater, map[int][]byte{53: body(2)})
	}
	wantOpened(t, withMarks(t, 60, marked(7, 1, 5), marked(7, 1, 6)), 7, map[int][]byte{53: body(2)})
}

// A mark with the greater stamp that is torn, at each place, is none, or is whole.
func TestOpenOfATornMark(t *testing.T) {
	was, is := marked(0x01020304, 1, 7), marked(0x11121314, 1, 5)
	for cut := range 33 {
		torn := slices.Concat(is[:cut], was[cut:])
		d := withMarks(t, 60, torn, marked(0x11121313, 1, 6))
		if cut == 32 {
			wantOpened(t, d, 0x11121314, map[int][]byte{53: body(2)})
		} else {
			wantOpened(t, d, 0x11121313, map[int][]byte{54: body(25)})
		}
	}
}

func TestOpenCountsThePages(t *testing.T) {
	for n := range 24 {
		numbers := []byte{byte(n)}
		zero, one := map[int][]byte{}, map[int][]byte{}
		for k := range n {
			numbers = append(numbers, byte((k*7+3)%30))
			zero[48+(k*7+3)%30] = body(2 + k)
			one[48+(k*7+3)%30] = body(25 + k)
		}
		wantOpened(t, withMarks(t, 78, marked(6, numbers...), zeros), 6, zero)
		wantOpened(t, withMarks(t, 78, zeros, marked(6, numbers...)), 6, one)
	}
	for first := 24; first < 256; first++ {
		between := append([]byte{byte(first)}, full(0, 22)...)
		wantNoMark(t, "too many pages", withMarks(t, 78, marked(6, between...), zeros))
	}
}

// Each of the numbers must be a page; what stands behind them does not count.
func TestOpenAsksForEachPage(t *testing.T) {
	for _, c := range []struct{ sectors, pages int }{{49, 1}, {60, 12}, {248, 200}, {249, 200}, {300, 200}} {
		last, none := byte(c.pages-1), byte(c.pages)
		wantOpened(t, withMarks(t, c.sectors, marked(6, 1, last), zeros), 6, map[int][]byte{48 + int(last): body(2)})
		wantOpened(t, withMarks(t, c.sectors, marked(6, 1, last, none, 255), zeros), 6, map[int][]byte{48 + int(last): body(2)})
		wantOpened(t, withMarks(t, c.sectors, marked(6, 0, none, 255), zeros), 6, nil)
		wantNoMark(t, "the page behind the last", withMarks(t, c.sectors, marked(6, 1, none), zeros))
		wantNoMark(t, "page 255", withMarks(t, c.sectors, marked(6, 1, 255), zeros))
		for k := range 23 {
			between := full(23, 23)
			between[1+k] = none
			wantNoMark(t, "one that is none", withMarks(t, c.sectors, zeros, marked(6, between...)))
			between[0] = byte(k)
			wantStamp(t, opened(t, withMarks(t, c.sectors, zeros, marked(6, between...))), 6)
		}
	}
}

// A page that is named twice has what is Written last.
func TestOpenOfAPageTwice(t *testing.T) {
	d := withMarks(t, 60, marked(6, 3, 5, 4, 5), zeros)
	wantOpened(t, d, 6, map[int][]byte{53: body(4), 52: body(3)})
}

func TestOpenSteps(t *testing.T) {
	laid := func() *device.Device { return withMarks(t, 60, marked(6, 3, 9, 0, 4), marked(5, 1, 1)) }
	wantSteps(t, laid, openOf, []step{{57, body(2)}, {48, body(3)}, {52, body(4)}, flush})
	laid = func() *device.Device { return withMarks(t, 60, marked(6, 3, 9, 0, 4), marked(7, 2, 11, 1)) }
	wantSteps(t, laid, openOf, []step{{59, body(25)}, {49, body(26)}, flush})
	laid = func() *device.Device { return withMarks(t, 60, marked(6), zeros) }
	wantSteps(t, laid, openOf, []step{flush})
	full := []byte{23}
	steps := []step{}
	for k := range 23 {
		full = append(full, byte(22-k))
		steps = append(steps, step{48 + 22 - k, body(25 + k)})
	}
	laid = func() *device.Device { return withMarks(t, 71, zeros, marked(6, full...)) }
	wantSteps(t, laid, openOf, append(steps, flush))
}

func TestOpenOfOneThatIsDown(t *testing.T) {
	d := withMarks(t, 60, marked(6, 2, 9, 0), zeros)
	pull(d)
	p, err := pages.Open(d)
	wantNoPages(t, "Open", p, err, api.ErrLost)
	empty := made(t, 60)
	pull(empty)
	p, err = pages.Open(empty)
	wantNoPages(t, "Open of one without marks", p, err, api.ErrLost)
	for n := range 3 {
		d.Crash(nil, -1, 0)
		d.Fail(n)
		p, err := pages.Open(d)
		wantNoPages(t, "Open", p, err, api.ErrLost)
	}
	d.Crash(nil, -1, 0)
	wantOpened(t, d, 6, map[int][]byte{57: body(2), 48: body(3)})
}
