package device_test

import (
	"bytes"
	"math"
	"slices"
	"testing"

	"vaultkeel/api"
	"vaultkeel/device"
	"vaultkeel/plain"
)

// body of 32 bytes, none of them 0, other ones for each c at each place.
func body(c int) []byte {
	b := make([]byte, 32)
	for i := range b {
		b[i] = byte(1 + (40*c+i)%255)
	}
	return b
}

// mixed has the first cut bytes of a, and the others of b.
func mixed(a, b []byte, cut int) []byte { return slices.Concat(a[:cut], b[cut:]) }

var zeros = make([]byte, 32)

func made(t *testing.T, n int) *device.Device {
	t.Helper()
	d, err := device.New(n)
	if err != nil || d == nil {
		t.Fatalf("New(%d): got %v, %v", n, d, err)
	}
	return d
}

func wantTold(t *testing.T, what string, err error, told api.Errno) {
	t.Helper()
	if plain.Told(err) != told {
		t.Errorf("%s: got %v, want %v", what, err, told)
	}
}

// wantRead asks for bytes without an error, or for an error and nothing beside it.
func wantRead(t *testing.T, d *device.Device, i int, want []byte, told api.Errno) {
	t.Helper()
	got, err := d.Read(i)
	if plain.Told(err) != told || !bytes.Equal(got, want) {
		t.Errorf("Read(%d): got %v, %v; want %v, %v", i, got, err, want, told)
	}
}

// wantWrite also asks that what is handed in is not written into.
func wantWrite(t *testing.T, d *device.Device, i int, b []byte, told api.Errno) {
	t.Helper()
	before := bytes.Clone(b)
	wantTold(t, "Write", d.Write(i, b), told)
	if !bytes.Equal(b, before) {
		t.Errorf("Write(%d) wrote into what it was given: %v, was %v", i, b, before)
	}
}

func wantFlush(t *testing.T, d *device.Device, told api.Errno) {
	t.Helper()
	wantTold(t, "Flush", d.Flush(), told)
}

func wantPending(t *testing.T, d *device.Device, want ...int) {
	t.Helper()
	if got := d.Pending(); !slices.Equal(got, want) {
		t.Errorf("Pending: got %v, want %v", got, want)
	}
}

func wantDown(t *testing.T, d *device.Device, want bool) {
	t.Helper()
	if got := d.Down(); got != want {
		t.Errorf("Down: got %v, want %v", got, want)
	}
}

// wantCrash also asks how it is behind each one, and that keep is not written into.
func wantCrash(t *testing.T, d *device.Device, keep []bool, torn, cut, want int) {
	t.Helper()
	before := slices.Clone(keep)
	if got := d.Crash(keep, torn, cut); got != want {
		t.Errorf("Crash(%v, %d, %d): got %d, want %d", keep, torn, cut, got, want)
	}
	if !slices.Equal(keep, before) {
		t.Errorf("Crash wrote into keep: %v, was %v", keep, before)
	}
	wantPending(t, d)
	wantDown(t, d, false)
}

// pull makes the power of a device go at the very next step, a Flush.
func pull(t *testing.T, d *device.Device) {
	t.Helper()
	d.Fail(0)
	wantFlush(t, d, api.ErrLost)
	wantDown(t, d, true)
}

func TestNew(t *testing.T) {
	for _, n := range []int{1, 2, 48, 299, 300} {
		d := made(t, n)
		if d.Len() != n {
			t.Errorf("Len of %d: got %d", n, d.Len())
		}
		for i := range n {
			wantRead(t, d, i, zeros, api.OK)
		}
		wantRead(t, d, n, nil, api.ErrRange)
		wantPending(t, d)
		wantDown(t, d, false)
	}
}

func TestNewOfOtherNumbers(t *testing.T) {
	for _, n := range []int{0, -1, 301, 302, -300, 1<<32 + 1, math.MaxInt, math.MinInt} {
		d, err := device.New(n)
		wantTold(t, "New", err, api.ErrRange)
		if d != nil {
			t.Errorf("New(%d): got a device beside the error", n)
		}
	}
}

func TestLenStays(t *testing.T) {
	d := made(t, 3)
	wantWrite(t, d, 2, body(1), api.OK)
	wantWrite(t, d, 3, body(1), api.ErrRange)
	pull(t, d)
	if d.Len() != 3 {
		t.Errorf("Len of one that is down: got %d, want 3", d.Len())
	}
	wantCrash(t, d, nil, 0, 0, 1)
	if d.Len() != 3 {
		t.Errorf("Len behind Crash: got %d, want 3", d.Len())
	}
}

func TestDevicesAreApart(t *testing.T) {
	a, b := made(t, 2), made(t, 2)
	wantWrite(t, a, 0, body(1), api.OK)
	wantFlush(t, a, api.OK)
	wantWrite(t, a, 1, body(2), api.OK)
	pull(t, a)
	wantRead(t, b, 0, zeros, api.OK)
	wantRead(t, b, 1, zeros, api.OK)
	wantPending(t, b)
	wantDown(t, b, false)
}

func TestWhatWasWrittenLastIsRead(t *testing.T) {
	for _, i := range []int{0, 1, 4} {
		d := made(t, 5)
		for round := 1; round <= 3; round++ {
			wantWrite(t, d, i, body(2*round), api.OK)
			wantRead(t, d, i, body(2*round), api.OK)
			wantWrite(t, d, i, body(2*round+1), api.OK)
			wantRead(t, d, i, body(2*round+1), api.OK)
			wantFlush(t, d, api.OK)
			wantRead(t, d, i, body(2*round+1), api.OK)
			wantFlush(t, d, api.OK)
			wantRead(t, d, i, body(2*round+1), api.OK)
		}
		for k := range 5 {
			if k != i {
				wantRead(t, d, k, zeros, api.OK)
			}
		}
	}
}

func TestZerosAreWrittenToo(t *testing.T) {
	d := made(t, 1)
	wantWrite(t, d, 0, body(1), api.OK)
	wantFlush(t, d, api.OK)
	wantWrite(t, d, 0, zeros, api.OK)
	wantRead(t, d, 0, zeros, api.OK)
	wantPending(t, d, 0)
	wantFlush(t, d, api.OK)
	wantRead(t, d, 0, zeros, api.OK)
}

func TestSectorsThatAreNone(t *testing.T) {
	for _, n := range []int{1, 5, 300} {
		d := made(t, n)
		wantWrite(t, d, n-1, body(1), api.OK)
		for _, i := range []int{-1, n, n + 1, -n, 1 << 32, math.MaxInt, math.MinInt} {
			wantRead(t, d, i, nil, api.ErrRange)
			wantWrite(t, d, i, body(2), api.ErrRange)
		}
		wantRead(t, d, n-1, body(1), api.OK)
		wantPending(t, d, n-1)
	}
}

func TestBytesThatAreNot32(t *testing.T) {
	d := made(t, 2)
	wantWrite(t, d, 0, body(1), api.OK)
	long := slices.Concat(body(2), body(3), body(4))
	for _, n := range []int{0, 1, 16, 31, 33, 64} {
		wantWrite(t, d, 0, long[:n], api.ErrShape)
		wantWrite(t, d, 1, long[:n], api.ErrShape)
	}
	wantWrite(t, d, 1, nil, api.ErrShape)
	wantRead(t, d, 0, body(1), api.OK)
	wantRead(t, d, 1, zeros, api.OK)
	wantPending(t, d, 0)
	wantWrite(t, d, 1, long[:32], api.OK)
	wantRead(t, d, 1, body(2), api.OK)
}

// The chapter's order: ErrRange, ErrShape, ErrLost.
func TestTheErrorThatIsNamedFirst(t *testing.T) {
	d := made(t, 2)
	for _, i := range []int{-1, 2, math.MaxInt, math.MinInt} {
		wantWrite(t, d, i, body(1)[:31], api.ErrRange)
	}
	pull(t, d)
	for _, i := range []int{-1, 2, math.MaxInt, math.MinInt} {
		wantRead(t, d, i, nil, api.ErrRange)
		wantWrite(t, d, i, body(1), api.ErrRange)
		wantWrite(t, d, i, slices.Concat(body(1), []byte{1}), api.ErrRange)
	}
	wantWrite(t, d, 0, body(1)[:31], api.ErrShape)
	wantWrite(t, d, 1, nil, api.ErrShape)
	wantWrite(t, d, 0, body(1), api.ErrLost)
	wantRead(t, d, 0, nil, api.ErrLost)
	wantFlush(t, d, api.ErrLost)
	wantPending(t, d)
}

// The very step at which the power is to go tells another error first, and is none.
func TestAnotherErrorIsNoStep(t *testing.T) {
	for n := range 3 {
		d := made(t, 2)
		d.Fail(n)
		for range 4 {
			wantWrite(t, d, 2, body(1), api.ErrRange)
			wantWrite(t, d, -1, body(1), api.ErrRange)
			wantWrite(t, d, 0, body(1)[:31], api.ErrShape)
			wantRead(t, d, 2, nil, api.ErrRange)
			wantRead(t, d, 0, zeros, api.OK)
			d.Pending()
			d.Len()
			wantDown(t, d, false)
		}
		for range n {
			wantWrite(t, d, 0, body(1), api.OK)
			wantWrite(t, d, 0, body(1)[:31], api.ErrShape)
		}
		wantWrite(t, d, 1, body(2), api.ErrLost)
		wantDown(t, d, true)
	}
}

func TestTheDeviceHasItsOwnCopy(t *testing.T) {
	d := made(t, 1)
	given := body(1)
	wantWrite(t, d, 0, given, api.OK)
	clear(given)
	wantRead(t, d, 0, body(1), api.OK)
	got, _ := d.Read(0)
	clear(got[:cap(got)])
	wantRead(t, d, 0, body(1), api.OK)
	wantFlush(t, d, api.OK)
	wantRead(t, d, 0, body(1), api.OK)
	one, _ := d.Read(0)
	two, _ := d.Read(0)
	clear(one[:cap(one)])
	if !bytes.Equal(two, body(1)) {
		t.Errorf("two answers of Read share memory: %v", two)
	}
	wantRead(t, d, 0, body(1), api.OK)
}

// What was read stays as it was, whatever is written, flushed or lost later.
func TestWhatWasReadStays(t *testing.T) {
	d := made(t, 1)
	empty, _ := d.Read(0)
	wantWrite(t, d, 0, body(1), api.OK)
	first, _ := d.Read(0)
	wantWrite(t, d, 0, body(2), api.OK)
	wantFlush(t, d, api.OK)
	second, _ := d.Read(0)
	wantWrite(t, d, 0, body(3), api.OK)
	wantCrash(t, d, nil, 0, 9, 1)
	if !bytes.Equal(empty, zeros) || !bytes.Equal(first, body(1)) || !bytes.Equal(second, body(2)) {
		t.Errorf("what was read changed: %v %v %v", empty, first, second)
	}
}

// What lies behind the length of lists is neither read nor written.
func TestBehindTheLength(t *testing.T) {
	d := made(t, 2)
	memory := slices.Concat(body(1), body(2))
	wantWrite(t, d, 0, memory[:31], api.ErrShape)
	wantWrite(t, d, 0, memory[:32], api.OK)
	wantWrite(t, d, 1, memory[32:], api.OK)
	keep := []bool{false, true, true}
	wantCrash(t, d, keep[:1], -1, 0, 2)
	wantRead(t, d, 0, zeros, api.OK)
	wantRead(t, d, 1, zeros, api.OK)
	if !bytes.Equal(memory, slices.Concat(body(1), body(2))) || !slices.Equal(keep, []bool{false, true, true}) {
		t.Errorf("memory of an argument was written into: %v %v", memory, keep)
	}
}

func TestPendingOrder(t *testing.T) {
	d := made(t, 6)
	for _, i := range []int{4, 1, 5, 0} {
		wantWrite(t, d, i, body(i), api.OK)
	}
	wantPending(t, d, 4, 1, 5, 0)
	for _, i := range []int{0, 4, 1, 4, 5} {
		wantWrite(t, d, i, body(7), api.OK)
		wantPending(t, d, 4, 1, 5, 0)
	}
	wantWrite(t, d, 2, body(2), api.OK)
	wantPending(t, d, 4, 1, 5, 0, 2)
	wantFlush(t, d, api.OK)
	wantPending(t, d)
	wantWrite(t, d, 0, body(1), api.OK)
	wantWrite(t, d, 4, body(1), api.OK)
	wantPending(t, d, 0, 4)
}

func TestPendingOfAllSectors(t *testing.T) {
	d := made(t, 300)
	var want []int
	for i := range 300 {
		k := (i*7 + 3) % 300
		want = append(want, k)
		wantWrite(t, d, k, body(k), api.OK)
	}
	wantPending(t, d, want...)
	wantFlush(t, d, api.OK)
	wantPending(t, d)
	for i := range 300 {
		wantRead(t, d, i, body(i), api.OK)
	}
}

func TestPendingIsACopy(t *testing.T) {
	d := made(t, 3)
	wantWrite(t, d, 2, body(1), api.OK)
	wantWrite(t, d, 0, body(1), api.OK)
	one, two := d.Pending(), d.Pending()
	clear(one[:cap(one)])
	if !slices.Equal(two, []int{2, 0}) {
		t.Errorf("two answers of Pending share memory: %v", two)
	}
	wantPending(t, d, 2, 0)
	_ = append(two, 7)
	wantWrite(t, d, 1, body(1), api.OK)
	wantPending(t, d, 2, 0, 1)
	if !slices.Equal(two, []int{2, 0}) {
		t.Errorf("an answer of Pending changed later: %v", two)
	}
}

// Fail counts steps: n of them are done, and the next one says ErrLost.
func TestFailCountsSteps(t *testing.T) {
	for n := range 6 {
		writes, flushes, both := made(t, 2), made(t, 2), made(t, 2)
		writes.Fail(n)
		flushes.Fail(n)
		both.Fail(n)
		for k := range n {
			wantWrite(t, writes, 1, body(k), api.OK)
			wantFlush(t, flushes, api.OK)
			if k%2 == 0 {
				wantWrite(t, both, 0, body(k), api.OK)
			} else {
				wantFlush(t, both, api.OK)
			}
		}
		for _, d := range []*device.Device{writes, flushes, both} {
			wantDown(t, d, false)
		}
		wantWrite(t, writes, 1, body(9), api.ErrLost)
		wantFlush(t, flushes, api.ErrLost)
		wantWrite(t, both, 1, body(9), api.ErrLost)
		for _, d := range []*device.Device{writes, flushes, both} {
			wantDown(t, d, true)
			wantRead(t, d, 0, nil, api.ErrLost)
		}
	}
}

func TestFailBelowZeroIsNever(t *testing.T) {
	for _, n := range []int{-1, -2, -300, math.MinInt} {
		d := made(t, 1)
		d.Fail(n)
		for k := range 20 {
			wantWrite(t, d, 0, body(k), api.OK)
			wantFlush(t, d, api.OK)
		}
		d.Fail(1)
		d.Fail(n)
		for k := range 20 {
			wantWrite(t, d, 0, body(k), api.OK)
		}
		wantDown(t, d, false)
	}
}

func TestFailFarAway(t *testing.T) {
	for _, n := range []int{1 << 32, math.MaxInt - 1, math.MaxInt} {
		d := made(t, 1)
		d.Fail(n)
		for k := range 20 {
			wantWrite(t, d, 0, body(k), api.OK)
			wantFlush(t, d, api.OK)
		}
		wantDown(t, d, false)
	}
}

func wantLeft(t *testing.T, d *device.Device, want int) {
	t.Helper()
	if got := d.Left(); got != want {
		t.Errorf("Left: got %d, want %d", got, want)
	}
}

// Left counts down what Fail said, by steps and by nothing else.
func TestLeft(t *testing.T) {
	for _, n := range []int{1 << 32, math.MaxInt - 1, math.MaxInt, 4} {
		d := made(t, 2)
		d.Fail(n)
		wantLeft(t, d, n)
		wantWrite(t, d, 1, body(1), api.OK)
		wantLeft(t, d, n-1)
		wantWrite(t, d, 1, body(2), api.OK)
		wantFlush(t, d, api.OK)
		wantWrite(t, d, 2, body(3), api.ErrRange)
		wantWrite(t, d, 1, body(3)[:31], api.ErrShape)
		wantRead(t, d, 1, body(2), api.OK)
		wantLeft(t, d, n-3)
		wantFlush(t, d, api.OK)
		wantLeft(t, d, n-4)
	}
}

func TestLeftWherePowerGoes(t *testing.T) {
	d := made(t, 1)
	d.Fail(1)
	wantFlush(t, d, api.OK)
	wantLeft(t, d, 0)
	wantFlush(t, d, api.ErrLost)
	wantWrite(t, d, 0, body(1), api.ErrLost)
	wantLeft(t, d, 0)
	d.Fail(7)
	wantLeft(t, d, 7)
	wantCrash(t, d, nil, -1, 0, 0)
	wantLeft(t, d, -1)
}

func TestLeftWherePowerNeverGoes(t *testing.T) {
	d := made(t, 1)
	for _, n := range []int{-1, -2, -300, math.MinInt} {
		wantLeft(t, d, -1)
		d.Fail(n)
		wantLeft(t, d, -1)
		wantWrite(t, d, 0, body(1), api.OK)
		wantFlush(t, d, api.OK)
		wantLeft(t, d, -1)
	}
}

func TestFailAnew(t *testing.T) {
	for _, c := range []struct{ first, steps, second int }{{3, 1, 3}, {3, 3, 2}, {5, 2, 0}, {0, 0, 4}, {1, 1, 1}, {-1, 2, 1}} {
		d := made(t, 2)
		d.Fail(c.first)
		for range c.steps {
			wantFlush(t, d, api.OK)
		}
		d.Fail(c.second)
		for range c.second {
			wantFlush(t, d, api.OK)
			wantDown(t, d, false)
		}
		wantFlush(t, d, api.ErrLost)
		wantDown(t, d, true)
	}
}

// Without Fail the power never goes.
func TestNoFail(t *testing.T) {
	d := made(t, 1)
	for k := range 1000 {
		wantWrite(t, d, 0, body(k), api.OK)
		wantFlush(t, d, api.OK)
	}
	wantDown(t, d, false)
}

func TestPowerGoesAtAWrite(t *testing.T) {
	for _, kept := range []bool{false, true} {
		d := made(t, 3)
		wantWrite(t, d, 2, body(1), api.OK)
		d.Fail(0)
		wantWrite(t, d, 0, body(2), api.ErrLost)
		wantDown(t, d, true)
		wantPending(t, d, 2, 0)
		wantCrash(t, d, []bool{false, kept}, -1, 0, 2)
		wantRead(t, d, 2, zeros, api.OK)
		want := zeros
		if kept {
			want = body(2)
		}
		wantRead(t, d, 0, want, api.OK)
	}
}

// A sector that is pending already stands where it stood, and has what was written at the last.
func TestPowerGoesAtAWriteAgain(t *testing.T) {
	d := made(t, 3)
	wantWrite(t, d, 2, body(1), api.OK)
	wantWrite(t, d, 1, body(2), api.OK)
	d.Fail(0)
	wantWrite(t, d, 2, body(3), api.ErrLost)
	wantPending(t, d, 2, 1)
	wantCrash(t, d, []bool{true, true}, -1, 0, 2)
	wantRead(t, d, 2, body(3), api.OK)
	wantRead(t, d, 1, body(2), api.OK)
}

func TestPowerGoesAtAFlush(t *testing.T) {
	for _, kept := range []bool{false, true} {
		d := made(t, 3)
		wantWrite(t, d, 1, body(1), api.OK)
		wantWrite(t, d, 0, body(2), api.OK)
		pull(t, d)
		wantPending(t, d, 1, 0)
		wantCrash(t, d, []bool{kept, false}, -1, 0, 2)
		want := zeros
		if kept {
			want = body(1)
		}
		wantRead(t, d, 1, want, api.OK)
		wantRead(t, d, 0, zeros, api.OK)
	}
}

// What is done while it is down says ErrLost and does nothing; Fail does not bring the power back.
func TestDownTillCrash(t *testing.T) {
	d := made(t, 3)
	wantWrite(t, d, 0, body(1), api.OK)
	wantFlush(t, d, api.OK)
	wantWrite(t, d, 1, body(2), api.OK)
	pull(t, d)
	for _, n := range []int{-1, 0, 5, math.MaxInt} {
		for range 3 {
			for i := range 3 {
				wantRead(t, d, i, nil, api.ErrLost)
				wantWrite(t, d, i, body(5), api.ErrLost)
			}
			wantFlush(t, d, api.ErrLost)
			wantPending(t, d, 1)
			wantDown(t, d, true)
		}
		d.Fail(n)
	}
	wantCrash(t, d, []bool{true, true, true}, -1, 0, 1)
	wantRead(t, d, 0, body(1), api.OK)
	wantRead(t, d, 1, body(2), api.OK)
	wantRead(t, d, 2, zeros, api.OK)
}

// laid gives a device of 4 sectors with something flushed in each, and 3, 0 and 2 pending.
func laid(t *testing.T) *device.Device {
	t.Helper()
	d := made(t, 4)
	for i := range 4 {
		wantWrite(t, d, i, body(i), api.OK)
	}
	wantFlush(t, d, api.OK)
	for _, i := range []int{3, 0, 2} {
		wantWrite(t, d, i, body(10+i), api.OK)
	}
	wantPending(t, d, 3, 0, 2)
	return d
}

// order of the pending ones of laid.
var order = []int{3, 0, 2}

// wantLaid asks how many of the first bytes of each pending sector have come.
func wantLaid(t *testing.T, d *device.Device, came ...int) {
	t.Helper()
	for k, i := range order {
		wantRead(t, d, i, mixed(body(10+i), body(i), came[k]), api.OK)
	}
	wantRead(t, d, 1, body(1), api.OK)
}

func TestCrashKeeps(t *testing.T) {
	for _, c := range []struct {
		keep []bool
		came []int
	}{
		{nil, []int{0, 0, 0}},
		{[]bool{}, []int{0, 0, 0}},
		{[]bool{false, false, false}, []int{0, 0, 0}},
		{[]bool{true, true, true}, []int{32, 32, 32}},
		{[]bool{true}, []int{32, 0, 0}},
		{[]bool{false, true}, []int{0, 32, 0}},
		{[]bool{true, true}, []int{32, 32, 0}},
		{[]bool{true, false, true}, []int{32, 0, 32}},
		{[]bool{false, false, true}, []int{0, 0, 32}},
		{[]bool{false, true, false, true, true}, []int{0, 32, 0}},
		{[]bool{true, true, true, true, true, false}, []int{32, 32, 32}},
	} {
		for _, isPulled := range []bool{false, true} {
			d := laid(t)
			if isPulled {
				pull(t, d)
			}
			wantCrash(t, d, c.keep, -1, 32, 3)
			wantLaid(t, d, c.came...)
		}
	}
}

func TestCrashTears(t *testing.T) {
	cuts := []struct{ cut, came int }{{-1, 0}, {math.MinInt, 0}, {0, 0}, {1, 1}, {16, 16}, {31, 31}, {32, 32}, {33, 32}, {math.MaxInt, 32}}
	for _, keep := range [][]bool{nil, {true, true, true}, {false, false, false}, {true}, {false, true}, {true, false, true, true}} {
		for torn := range order {
			for _, c := range cuts {
				d := laid(t)
				wantCrash(t, d, keep, torn, c.cut, 3)
				came := make([]int, 3)
				for k := range came {
					if k < len(keep) && keep[k] {
						came[k] = 32
					}
				}
				came[torn] = c.came
				wantLaid(t, d, came...)
			}
		}
	}
}

func TestCrashTearsNone(t *testing.T) {
	for _, torn := range []int{-1, -3, 3, 4, 300, 1 << 32, math.MaxInt, math.MinInt} {
		d := laid(t)
		wantCrash(t, d, []bool{true, false, true, true, true}, torn, 7, 3)
		wantLaid(t, d, 32, 0, 32)
	}
}

// torn is a place in Pending, no number of a sector.
func TestTornIsAPlace(t *testing.T) {
	d := made(t, 9)
	wantWrite(t, d, 8, body(1), api.OK)
	wantWrite(t, d, 1, body(2), api.OK)
	wantCrash(t, d, nil, 1, 4, 2)
	wantRead(t, d, 8, zeros, api.OK)
	wantRead(t, d, 1, mixed(body(2), zeros, 4), api.OK)
}

// Of a sector that was written more than once what was written last is kept, or torn; the others are gone.
func TestCrashOfOneWrittenAgain(t *testing.T) {
	for cut := -1; cut <= 33; cut++ {
		d := made(t, 1)
		wantWrite(t, d, 0, body(1), api.OK)
		wantFlush(t, d, api.OK)
		wantWrite(t, d, 0, body(2), api.OK)
		wantWrite(t, d, 0, body(3), api.OK)
		wantCrash(t, d, []bool{true}, 0, cut, 1)
		wantRead(t, d, 0, mixed(body(3), body(1), min(max(cut, 0), 32)), api.OK)
	}
}

func TestCrashWithNothingPending(t *testing.T) {
	d := made(t, 2)
	wantCrash(t, d, []bool{true}, 0, 32, 0)
	wantWrite(t, d, 0, body(1), api.OK)
	wantFlush(t, d, api.OK)
	wantCrash(t, d, nil, 0, 3, 0)
	pull(t, d)
	wantCrash(t, d, nil, -1, 3, 0)
	wantRead(t, d, 0, body(1), api.OK)
	wantRead(t, d, 1, zeros, api.OK)
}

// What is lost once is not back with a later Flush or Crash.
func TestWhatIsGoneIsGone(t *testing.T) {
	d := laid(t)
	wantCrash(t, d, nil, -1, 0, 3)
	wantFlush(t, d, api.OK)
	wantLaid(t, d, 0, 0, 0)
	wantCrash(t, d, []bool{true, true, true}, 0, 32, 0)
	wantLaid(t, d, 0, 0, 0)
	wantWrite(t, d, 2, body(20), api.OK)
	wantPending(t, d, 2)
	wantCrash(t, d, []bool{true}, -1, 0, 1)
	wantRead(t, d, 2, body(20), api.OK)
	wantRead(t, d, 3, body(3), api.OK)
}

// What came into its sector stays there at the next crash.
func TestWhatCameStays(t *testing.T) {
	d := laid(t)
	wantCrash(t, d, []bool{true, true}, 1, 5, 3)
	wantCrash(t, d, nil, 0, 0, 0)
	wantLaid(t, d, 32, 5, 0)
	wantWrite(t, d, 0, body(20), api.OK)
	wantCrash(t, d, nil, 0, 2, 1)
	wantRead(t, d, 0, mixed(body(20), mixed(body(10), body(0), 5), 2), api.OK)
}

func TestCrashForgetsFail(t *testing.T) {
	for n := range 4 {
		d := made(t, 1)
		d.Fail(n)
		wantCrash(t, d, nil, -1, 0, 0)
		for k := range 8 {
			wantWrite(t, d, 0, body(k), api.OK)
			wantFlush(t, d, api.OK)
		}
		pull(t, d)
		d.Fail(n) // said of one that is down
		wantCrash(t, d, nil, -1, 0, 0)
		for k := range 8 {
			wantWrite(t, d, 0, body(k), api.OK)
			wantFlush(t, d, api.OK)
		}
		wantDown(t, d, false)
		d.Fail(1)
		wantFlush(t, d, api.OK)
		wantFlush(t, d, api.ErrLost)
	}
}

func TestPullAgainAndAgain(t *testing.T) {
	d := made(t, 2)
	for k := range 5 {
		wantWrite(t, d, 1, body(k), api.OK)
		pull(t, d)
		wantCrash(t, d, []bool{true}, -1, 0, 1)
		wantRead(t, d, 1, body(k), api.OK)
	}
}
