package view_test

import (
	"fmt"
	"math"
	"slices"
	"testing"

	"vaultkeel/api"
	"vaultkeel/device"
	"vaultkeel/pages"
	"vaultkeel/plain"
	"vaultkeel/view"
)

func TestNewHasTheBytesOfAllPages(t *testing.T) {
	for _, n := range []int{1, 2, 3, 24, 199, 200} {
		s := sheetOf(t, n)
		if got := s.view.Len(); got != 32*n {
			t.Errorf("Len of %d pages: got %d, want %d", n, got, 32*n)
		}
		s.want("behind New")
	}
}

// A device may have more sectors than there are pages.
func TestNewOfTheGreatestDevice(t *testing.T) {
	for _, n := range []int{249, 300} {
		d, err := device.New(n)
		if err != nil {
			t.Fatal(err)
		}
		p, err := pages.Format(d)
		if err != nil {
			t.Fatal(err)
		}
		v := viewOf(t, p)
		wantBytes(t, "behind New", v, make([]byte, 6400))
		wantRead(t, v, 6399, 2, nil, api.ErrRange)
	}
}

func TestNewOfADeviceThatIsDown(t *testing.T) {
	d, p := laid(t, 3)
	pull(d)
	v, err := view.New(p)
	if plain.Told(err) != api.ErrLost || v != nil {
		t.Errorf("New: got %v, %v; want ErrLost alone", v, err)
	}
	d.Crash(nil, -1, 0)
	wantBytes(t, "with the power back", viewOf(t, p), filling(0, 96))
}

// Reading is no step: a power that is to go at the next one does not go by New, and behind that step New says it is gone.
func TestNewOfADeviceWhosePowerGoes(t *testing.T) {
	d, p := laid(t, 3)
	d.Fail(0)
	v := viewOf(t, p)
	if d.Down() || len(d.Pending()) != 0 {
		t.Fatalf("New did a step")
	}
	if err := v.Write(0, []byte{1}); err != nil {
		t.Fatal(err)
	}
	if err := v.Commit(); plain.Told(err) != api.ErrLost {
		t.Errorf("Commit: got %v, want ErrLost", err)
	}
	again, err := view.New(p)
	if plain.Told(err) != api.ErrLost || again != nil {
		t.Errorf("New: got %v, %v; want ErrLost alone", again, err)
	}
}

func TestNoPageIsReadBehindNew(t *testing.T) {
	s := sheetOf(t, 3)
	change(t, s.device, filling(5, 96))
	s.want("changed on the device")
	if err := s.pages.Commit([]api.Page{{Number: 1, Body: filling(6, 32)}}); err != nil {
		t.Fatal(err)
	}
	s.want("committed past the View")
	s.abort()
	s.want("behind Abort")
	s.write(40, []byte{7, 7}, api.OK)
	s.want("behind Write")
	s.commit(api.OK)
	s.want("behind Commit")
	s.write(0, []byte{8}, api.OK)
	s.abort()
	s.want("behind another Abort")
	// But for the page that was written to, the device has what was laid past the View.
	now := slices.Concat(filling(5, 32), s.now[32:64], filling(5, 96)[64:])
	wantBytes(t, "a View of now", viewOf(t, s.pages), now)
}

// What needs no device is as ever while it is down.
func TestViewOfADeviceThatIsDown(t *testing.T) {
	s := sheetOf(t, 3)
	s.write(30, []byte{1, 2, 3}, api.OK)
	pull(s.device)
	s.want("with the power gone")
	s.write(64, []byte{4}, api.OK)
	s.write(96, []byte{4}, api.ErrRange)
	s.want("written to")
	s.commit(api.ErrLost)
	s.want("behind Commit")
	s.abort()
	s.want("behind Abort")
}

func TestTwoViewsOfTheSamePages(t *testing.T) {
	a := sheetOf(t, 3)
	b := *a
	b.view = viewOf(t, a.pages)
	b.kept, b.now = filling(0, 96), filling(0, 96)
	a.write(10, []byte{1, 2}, api.OK)
	b.write(70, []byte{3}, api.OK)
	a.want("the first")
	b.want("the second")
	a.commit(api.OK)
	a.want("the first, committed")
	b.want("the second, not")
	b.abort()
	b.want("the second, aborted")
}

// extremes are numbers that are no place and no length.
var extremes = []int{-1, -2, -32, -96, 97, 98, 128, 1000, math.MaxInt, math.MaxInt - 1, math.MaxInt - 95, math.MaxInt - 96, math.MinInt, math.MinInt + 1, math.MinInt + 96, 1 << 32, 1<<32 + 1, -1 << 32}

// wantReads asks each place and length around three pages.
func wantReads(t *testing.T, v *view.View, all []byte) {
	t.Helper()
	for at := -2; at <= len(all)+2; at++ {
		for n := -2; n <= len(all)+2; n++ {
			if at < 0 || n < 0 || at+n > len(all) {
				wantRead(t, v, at, n, nil, api.ErrRange)
			} else {
				wantRead(t, v, at, n, all[at:at+n], api.OK)
			}
		}
	}
}

func TestReadOfAllPlaces(t *testing.T) {
	s := sheetOf(t, 3)
	wantReads(t, s.view, s.now)
	s.write(30, []byte{1, 2, 3, 4, 5}, api.OK)
	wantReads(t, s.view, s.now)
	s.commit(api.OK)
	wantReads(t, s.view, s.now)
	s.write(62, []byte{6, 7, 8, 9}, api.OK)
	s.commit(api.OK)
	s.write(1, []byte{10}, api.OK)
	wantReads(t, s.view, s.now)
	s.abort()
	wantReads(t, s.view, s.now)
}

func TestReadOfNoPlaces(t *testing.T) {
	s := sheetOf(t, 3)
	for _, x := range extremes {
		for _, y := range []int{0, 1, 32, 95, 96} {
			wantRead(t, s.view, x, y, nil, api.ErrRange)
			wantRead(t, s.view, y, x, nil, api.ErrRange)
		}
		for _, y := range extremes {
			wantRead(t, s.view, x, y, nil, api.ErrRange)
		}
	}
	s.want("behind Reads")
}

func TestReadGivesFreshMemory(t *testing.T) {
	s := sheetOf(t, 3)
	s.write(40, filling(1, 10), api.OK)
	for range 2 {
		for _, c := range []struct{ at, n int }{{0, 96}, {0, 32}, {32, 32}, {40, 10}, {33, 1}, {60, 10}} {
			a, _ := s.view.Read(c.at, c.n)
			b, _ := s.view.Read(c.at, c.n)
			clear(a[:cap(a)])
			if slices.Equal(a, b) {
				t.Errorf("Read(%d, %d): two answers share memory", c.at, c.n)
			}
			clear(b[:cap(b)])
			s.want("behind a written answer")
		}
		s.commit(api.OK)
	}
	_, again := reopened(t, s.device)
	wantBytes(t, "opened again", again, s.now)
}

func TestWriteToAllPlaces(t *testing.T) {
	s := sheetOf(t, 3)
	for at := -2; at <= 98; at++ {
		for n := range 99 {
			told := api.OK
			if at < 0 || at+n > 96 {
				told = api.ErrRange
			}
			s.write(at, filling(1+(at+n)&3, n), told)
			s.want(fmt.Sprintf("Write(%d) of %d bytes", at, n))
			s.abort()
		}
	}
}

func TestWriteToNoPlaces(t *testing.T) {
	s := sheetOf(t, 3)
	s.write(40, []byte{1}, api.OK)
	for _, at := range extremes {
		for _, n := range []int{0, 1, 31, 32, 33, 96, 97} {
			s.write(at, filling(1, n), api.ErrRange)
		}
	}
	s.want("behind Writes to no places")
}

func TestWriteOfNone(t *testing.T) {
	s := sheetOf(t, 3)
	for _, b := range [][]byte{nil, {}} {
		for _, at := range []int{0, 1, 31, 32, 33, 95, 96} {
			s.write(at, b, api.OK)
			s.want("behind Write of none")
		}
		for _, at := range []int{-1, 97} {
			s.write(at, b, api.ErrRange)
			s.want("behind Write of none to no place")
		}
	}
}

func TestWriteOverWrites(t *testing.T) {
	s := sheetOf(t, 3)
	for k, c := range []struct{ at, n int }{{20, 30}, {0, 25}, {31, 2}, {10, 80}, {45, 1}, {0, 96}, {63, 33}} {
		s.write(c.at, filling(1+k, c.n), api.OK)
		s.want("behind Writes")
	}
}

func TestWriteOverMaxBatch(t *testing.T) {
	for _, c := range []struct {
		at, n int
		told  api.Errno
	}{
		{0, 23 * 32, api.OK}, {0, 23*32 + 1, api.ErrFull}, {0, 24 * 32, api.ErrFull}, {0, 26 * 32, api.ErrFull},
		{31, 22*32 + 1, api.OK}, {31, 22*32 + 2, api.ErrFull}, {31, 23*32 + 1, api.ErrFull},
		{1, 23*32 - 1, api.OK}, {1, 23 * 32, api.ErrFull},
		{96, 23 * 32, api.OK}, {95, 23 * 32, api.ErrFull}, {95, 23*32 + 1, api.ErrFull}, {64, 24 * 32, api.ErrFull},
		{127, 22*32 + 1, api.OK}, {127, 22*32 + 2, api.ErrRange}, {96, 23*32 + 1, api.ErrRange}, {0, 26*32 + 1, api.ErrRange},
		{-1, 24 * 32, api.ErrRange}, {65, 24 * 32, api.ErrRange}, {26*32 + 1, 24 * 32, api.ErrRange}, {math.MaxInt, 24 * 32, api.ErrRange}, {math.MinInt, 24 * 32, api.ErrRange},
	} {
		s := sheetOf(t, 26)
		s.write(c.at, filling(1, c.n), c.told)
		s.want(fmt.Sprintf("Write(%d) of %d bytes", c.at, c.n))
		s.commit(api.OK)
		s.want("committed")
	}
}

// What is dirty already counts, each page once.
func TestWriteTogetherOverMaxBatch(t *testing.T) {
	s := sheetOf(t, 48)
	for k := range 22 {
		s.write(64*k+k, []byte{byte(k)}, api.OK)
	}
	s.want("22 pages")
	s.write(63, []byte{1, 1}, api.OK) // page 1 is the 23rd, and page 2 is dirty
	s.want("23 pages")
	for _, c := range []struct {
		at, n int
		told  api.Errno
	}{
		{96, 1, api.ErrFull}, {127, 1, api.ErrFull}, {95, 2, api.ErrFull}, {127, 2, api.ErrFull}, {47 * 32, 32, api.ErrFull}, {48*32 - 1, 1, api.ErrFull}, {0, 97, api.ErrFull}, {0, 48 * 32, api.ErrFull},
		{48*32 - 1, 2, api.ErrRange}, {48 * 32, 1, api.ErrRange}, {0, 48*32 + 1, api.ErrRange}, {-1, 2, api.ErrRange},
		{0, 96, api.OK}, {31, 34, api.OK}, {64, 32, api.OK}, {128, 32, api.OK}, {42*32 + 31, 1, api.OK},
		{96, 0, api.OK}, {97, 0, api.OK}, {48 * 32, 0, api.OK}, {48*32 + 1, 0, api.ErrRange},
	} {
		s.write(c.at, filling(3, c.n), c.told)
		s.want(fmt.Sprintf("Write(%d) of %d bytes", c.at, c.n))
	}
	s.abort()
	s.write(96, filling(4, 23*32), api.OK)
	s.commit(api.OK)
	s.write(0, filling(5, 23*32), api.OK)
	s.want("behind a Commit there is room again")
}

// Runs that overlap with what is dirty: 20 pages, with 3 more, and with 4.
func TestWriteOverlapsWhatIsDirty(t *testing.T) {
	for _, c := range []struct {
		at, n int
		told  api.Errno
	}{
		{7 * 32, 3 * 32, api.OK}, {7 * 32, 22 * 32, api.OK}, {7*32 + 31, 22*32 + 1, api.OK}, {7*32 - 1, 23 * 32, api.ErrFull}, {6 * 32, 4 * 32, api.ErrFull}, {6 * 32, 22 * 32, api.ErrFull},
		{30 * 32, 3 * 32, api.OK}, {28 * 32, 5 * 32, api.OK}, {28 * 32, 5*32 + 1, api.ErrFull}, {10 * 32, 23 * 32, api.OK}, {8 * 32, 23 * 32, api.OK}, {8*32 - 1, 23*32 + 1, api.ErrFull}, {0, 33 * 32, api.ErrFull},
	} {
		s := sheetOf(t, 34)
		s.write(10*32, filling(1, 20*32), api.OK)
		s.write(c.at, filling(2, c.n), c.told)
		s.want(fmt.Sprintf("Write(%d) of %d bytes", c.at, c.n))
		s.commit(api.OK)
		s.want("committed")
	}
}

func TestWriteKeepsNothing(t *testing.T) {
	s := sheetOf(t, 3)
	b := filling(1, 32)
	for range 2 {
		if err := s.view.Write(32, b); err != nil {
			t.Fatal(err)
		}
		b[0]++
		if got, err := s.view.Read(32, 1); err != nil || got[0] != b[0]-1 {
			t.Errorf("what was handed in is kept: got %v, %v", got, err)
		}
	}
}

func TestDirtyIsRising(t *testing.T) {
	s := sheetOf(t, 200)
	for _, page := range []int{199, 0, 100, 7, 64, 8, 198, 7, 1, 0, 63, 65, 128, 127, 33, 100} {
		s.write(32*page+page%32, []byte{1}, api.OK)
		s.want("behind Writes here and there")
	}
	for range 10 {
		s.want("asked again")
	}
}

func TestDirtyOfWhatWasThere(t *testing.T) {
	s := sheetOf(t, 5)
	s.write(0, s.now[:1], api.OK)
	s.write(90, filling(0, 160)[90:130], api.OK)
	s.want("with what was there")
	if got := s.view.Dirty(); !slices.Equal(got, []int{0, 2, 3, 4}) {
		t.Errorf("Dirty: got %v", got)
	}
	s.write(40, []byte{1}, api.OK)
	s.write(40, s.kept[40:41], api.OK)
	s.want("there and back")
	s.commit(api.OK)
	wantStamp(t, s.pages, 3)
	s.want("committed")
}

func TestDirtyGivesFreshMemory(t *testing.T) {
	s := sheetOf(t, 5)
	s.write(0, filling(1, 160), api.OK)
	a, b := s.view.Dirty(), s.view.Dirty()
	clear(a[:cap(a)])
	if !slices.Equal(b, s.dirty) {
		t.Errorf("two answers of Dirty share memory")
	}
	s.want("behind a written answer")
	b = append(b, 7)
	s.commit(api.OK)
	if !slices.Equal(b, []int{0, 1, 2, 3, 4, 7}) {
		t.Errorf("Commit wrote into an answer of Dirty: %v", b)
	}
}

func TestAbort(t *testing.T) {
	s := sheetOf(t, 5)
	s.abort()
	s.want("of none")
	s.write(30, filling(1, 70), api.OK)
	s.abort()
	s.want("behind Writes")
	s.abort()
	s.want("twice")
	s.write(30, filling(2, 70), api.OK)
	s.commit(api.OK)
	s.abort()
	s.want("behind a Commit")
	s.write(0, filling(3, 32), api.OK)
	s.write(90, filling(4, 20), api.OK)
	s.abort()
	s.want("behind a Commit and Writes")
	s.commit(api.OK)
	wantStamp(t, s.pages, 3)
	_, again := reopened(t, s.device)
	wantBytes(t, "opened again", again, s.now)
}

// Nothing comes to the device but by Commit.
func TestWriteAndAbortDoNoStep(t *testing.T) {
	s := sheetOf(t, 5)
	was := sectors(t, s.device)
	s.device.Fail(0)
	s.write(30, filling(1, 70), api.OK)
	s.abort()
	s.write(0, filling(2, 160), api.OK)
	s.want("written")
	if s.device.Down() || len(s.device.Pending()) != 0 || !slices.Equal(sectors(t, s.device), was) {
		t.Errorf("Write or Abort did a step")
	}
}
