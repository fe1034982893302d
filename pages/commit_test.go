package pages_test

import (
	"math"
	"slices"
	"testing"

	"vaultkeel/api"
	"vaultkeel/device"
	"vaultkeel/pages"
)

// page of a Number, with a Body of so many bytes.
func page(number, n int) api.Page {
	return api.Page{Number: number, Body: slices.Concat(body(number&7), body(9))[:n]}
}

// wantRefused asks for an error of what is handed in, with the power there and gone: nothing is done, and nothing is another.
func wantRefused(t *testing.T, l []api.Page, told api.Errno) {
	t.Helper()
	d, p := formatted(t, 73)
	wantCommit(t, p, sheets(1, 0, 3), api.OK)
	was := sectors(t, d)
	d.Fail(0)
	wantCommit(t, p, l, told)
	if d.Down() {
		t.Fatalf("Commit of what is refused did a step")
	}
	wantPending(t, d)
	wantStamp(t, p, 3)
	wantSectors(t, d, was, nil)
	pull(d)
	wantCommit(t, p, l, told)
	wantStamp(t, p, 3)
	d.Crash(nil, -1, 0)
	wantSectors(t, d, was, nil)
	wantStamp(t, opened(t, d), 3)
}

func TestCommitIsRead(t *testing.T) {
	d, p := formatted(t, 73)
	now := slices.Repeat([][]byte{zeros}, 25)
	for c, numbers := range [][]int{{0}, {24}, {3, 1}, {1, 3}, rising(23), {24, 0}, {7}} {
		l := sheets(30*c+1, numbers...)
		wantCommit(t, p, l, api.OK)
		wantStamp(t, p, 3+c)
		wantPending(t, d)
		for _, x := range l {
			now[x.Number] = x.Body
		}
		if !same(contents(t, p), now) {
			t.Fatalf("behind Commit of %v the pages are others", numbers)
		}
		q := opened(t, d)
		wantStamp(t, q, 3+c)
		if !same(contents(t, q), now) {
			t.Fatalf("behind Open of %v the pages are others", numbers)
		}
	}
}

func TestCommitOfTooMany(t *testing.T) {
	_, p := formatted(t, 73)
	wantCommit(t, p, sheets(1, rising(23)...), api.OK)
	wantStamp(t, p, 3)
	for _, n := range []int{24, 25, 46, 256, 257, 1000} {
		wantRefused(t, sheets(1, rising(n)...), api.ErrFull)
	}
	wantRefused(t, make([]api.Page, 24), api.ErrFull)
}

func TestCommitOfNumbersThatAreNone(t *testing.T) {
	for _, n := range []int{-1, 25, 26, -48, -25, 200, 255, 256, 1<<32 + 1, math.MaxInt, math.MaxInt - 47, math.MinInt} {
		wantRefused(t, []api.Page{page(n, 32)}, api.ErrRange)
		wantRefused(t, []api.Page{page(0, 32), page(n, 32), page(1, 32)}, api.ErrRange)
		wantRefused(t, []api.Page{page(0, 32), page(24, 32), page(n, 32)}, api.ErrRange)
	}
	for _, c := range []struct{ sectors, pages int }{{49, 1}, {248, 200}, {249, 200}, {300, 200}} {
		_, p := formatted(t, c.sectors)
		wantCommit(t, p, []api.Page{page(0, 32)}, api.OK)
		wantCommit(t, p, []api.Page{page(c.pages-1, 32)}, api.OK)
		wantCommit(t, p, []api.Page{page(c.pages, 32)}, api.ErrRange)
		wantStamp(t, p, 4)
	}
}

func TestCommitOfBodiesThatAreNot32(t *testing.T) {
	for _, n := range []int{0, 1, 24, 31, 33, 64} {
		wantRefused(t, []api.Page{page(0, n)}, api.ErrShape)
		wantRefused(t, []api.Page{page(0, 32), page(1, n), page(2, 32)}, api.ErrShape)
		wantRefused(t, []api.Page{page(0, 32), page(1, 32), page(24, n)}, api.ErrShape)
	}
	wantRefused(t, []api.Page{{Number: 0}}, api.ErrShape)
	wantRefused(t, []api.Page{{Number: 0, Body: []byte{}}}, api.ErrShape)
}

func TestCommitOfANumberTwice(t *testing.T) {
	for _, numbers := range [][]int{{0, 0}, {24, 24}, {1, 2, 1}, {1, 2, 2}, {1, 1, 1}, append(rising(22), 0), append(rising(22), 21)} {
		wantRefused(t, sheets(1, numbers...), api.ErrClash)
	}
	same := []api.Page{page(5, 32), page(5, 32)}
	wantRefused(t, same, api.ErrClash)
}

// Page by page, of each the error that the chapter names first; ErrFull ahead of all.
func TestCommitTellsTheFirstError(t *testing.T) {
	wantRefused(t, append(sheets(1, rising(23)...), page(25, 32)), api.ErrFull)
	wantRefused(t, slices.Repeat([]api.Page{page(25, 31)}, 24), api.ErrFull)
	wantRefused(t, slices.Repeat([]api.Page{page(0, 31)}, 24), api.ErrFull)
	wantRefused(t, []api.Page{page(25, 31)}, api.ErrRange)
	wantRefused(t, []api.Page{page(-1, 0)}, api.ErrRange)
	wantRefused(t, []api.Page{page(25, 32), page(25, 32)}, api.ErrRange)
	wantRefused(t, []api.Page{page(0, 31), page(0, 31)}, api.ErrShape)
	wantRefused(t, []api.Page{page(0, 32), page(0, 31)}, api.ErrShape)
	wantRefused(t, []api.Page{page(0, 31), page(0, 32)}, api.ErrShape)
	wantRefused(t, []api.Page{page(0, 31), page(25, 32)}, api.ErrShape)
	wantRefused(t, []api.Page{page(25, 32), page(0, 31)}, api.ErrRange)
	wantRefused(t, []api.Page{page(0, 32), page(0, 32), page(25, 32)}, api.ErrClash)
	wantRefused(t, []api.Page{page(0, 32), page(0, 32), page(1, 31)}, api.ErrClash)
	wantRefused(t, []api.Page{page(0, 32), page(25, 32), page(0, 32)}, api.ErrRange)
	wantRefused(t, []api.Page{page(0, 32), page(1, 31), page(0, 32)}, api.ErrShape)
}

func TestCommitOfNone(t *testing.T) {
	for _, l := range [][]api.Page{nil, {}} {
		d, p := formatted(t, 60)
		wantCommit(t, p, sheets(1, 3), api.OK)
		was := sectors(t, d)
		if err := d.Write(59, body(9)); err != nil {
			t.Fatal(err)
		}
		d.Fail(0)
		wantCommit(t, p, l, api.OK)
		wantPending(t, d, 59)
		if d.Down() {
			t.Fatalf("Commit of none did a step")
		}
		wantStamp(t, p, 3)
		pull(d)
		wantCommit(t, p, l, api.ErrLost)
		wantStamp(t, p, 3)
		d.Crash(nil, -1, 0)
		wantCommit(t, p, l, api.OK)
		wantSectors(t, d, was, nil)
	}
}

func TestCommitSteps(t *testing.T) {
	var p *pages.Pages
	laid := func() *device.Device {
		d := filled(t, 73)
		p = format(t, d)
		return d
	}
	l := sheets(100, 9, 0, 4)
	commit := func(*device.Device) error { return p.Commit(l) }
	wantSteps(t, laid, commit, []step{
		{25, body(100)}, {26, body(101)}, {27, body(102)}, flush,
		{1, marked(3, 3, 9, 0, 4)}, flush,
		{57, body(100)}, {48, body(101)}, {52, body(102)}, flush,
	})
	even := func() *device.Device {
		d := laid()
		wantCommit(t, p, sheets(200, 7, 4), api.OK)
		return d
	}
	wantSteps(t, even, commit, []step{
		{2, body(100)}, {3, body(101)}, {4, body(102)}, flush,
		{0, marked(4, 3, 9, 0, 4)}, flush,
		{57, body(100)}, {48, body(101)}, {52, body(102)}, flush,
	})
	l = sheets(100, 24)
	wantSteps(t, laid, commit, []step{{25, body(100)}, flush, {1, marked(3, 1, 24)}, flush, {72, body(100)}, flush})
	l = sheets(100, rising(23)...)
	slices.Reverse(l)
	wantSteps(t, even, commit, stepsOf(4, 2, l))
	wantSteps(t, laid, commit, stepsOf(3, 25, l))
}

// stepsOf tells the steps of a Commit of pages that first stand from a sector on.
func stepsOf(stamp, first int, l []api.Page) (steps []step) {
	between := []byte{byte(len(l))}
	for k, x := range l {
		steps = append(steps, step{first + k, x.Body})
		between = append(between, byte(x.Number))
	}
	steps = append(steps, flush, step{stamp % 2, marked(stamp, between...)}, flush)
	for _, x := range l {
		steps = append(steps, step{48 + x.Number, x.Body})
	}
	return append(steps, flush)
}

// The lowest bit of the stamp tells the mark, whichever side the one ahead stands on.
func TestCommitBehindOpen(t *testing.T) {
	for _, n := range []int{1, 2, 3, 4, 255, 256, 0xffff, 0x10000, 0xffffff, 0x1000000, api.MaxStamp - 1} {
		for side := range 2 {
			var p *pages.Pages
			laid := func() *device.Device {
				marks := [][]byte{zeros, zeros}
				marks[side] = marked(n, 1, 2)
				d := withMarks(t, 60, marks[0], marks[1])
				p = opened(t, d)
				return d
			}
			l := sheets(100, 3, 1)
			first := []int{2, 25}[(n+1)%2]
			wantSteps(t, laid, func(*device.Device) error { return p.Commit(l) }, stepsOf(n+1, first, l))
			wantStamp(t, p, n+1)
		}
	}
}

// There is no stamp behind the greatest one.
func TestCommitAtTheGreatestStamp(t *testing.T) {
	d := withMarks(t, 60, zeros, marked(api.MaxStamp, 1, 2))
	p := opened(t, d)
	was := sectors(t, d)
	wantCommit(t, p, sheets(1, 3), api.ErrRange)
	wantStamp(t, p, api.MaxStamp)
	wantPending(t, d)
	wantSectors(t, d, was, nil)
	wantCommit(t, p, nil, api.OK)
	wantStamp(t, opened(t, d), api.MaxStamp)
}

func TestCommitKeepsNoBodies(t *testing.T) {
	d, p := formatted(t, 60)
	l := sheets(1, 3, 1)
	wantCommit(t, p, l, api.OK)
	for k := range l {
		clear(l[k].Body)
		l[k].Number = 7
	}
	for _, q := range []*pages.Pages{p, opened(t, d)} {
		wantRead(t, q, 3, body(1), api.OK)
		wantRead(t, q, 1, body(2), api.OK)
		wantRead(t, q, 7, zeros, api.OK)
	}
}

// What lies behind the length of lists is neither read nor written.
func TestCommitBehindTheLength(t *testing.T) {
	d, p := formatted(t, 60)
	memory := slices.Concat(body(1), body(2))
	l := []api.Page{{Number: 3, Body: memory[:32]}, {Number: 4, Body: memory[32:]}}
	wantCommit(t, p, l[:1], api.OK)
	wantRead(t, p, 3, body(1), api.OK)
	wantRead(t, p, 4, zeros, api.OK)
	if string(memory) != string(slices.Concat(body(1), body(2))) || l[1].Number != 4 {
		t.Errorf("Commit wrote behind what it was given")
	}
	wantStamp(t, opened(t, d), 3)
}

// One Body may be that of several pages.
func TestCommitOfOneBody(t *testing.T) {
	_, p := formatted(t, 60)
	b := body(1)
	wantCommit(t, p, []api.Page{{Number: 3, Body: b}, {Number: 4, Body: b}}, api.OK)
	wantRead(t, p, 3, body(1), api.OK)
	wantRead(t, p, 4, body(1), api.OK)
}

func TestCommitWithThePowerGone(t *testing.T) {
	d, p := formatted(t, 60)
	was := sectors(t, d)
	pull(d)
	wantCommit(t, p, sheets(1, 3), api.ErrLost)
	wantStamp(t, p, 2)
	wantPending(t, d)
	d.Crash(nil, -1, 0)
	wantSectors(t, d, was, nil)
	wantCommit(t, p, sheets(1, 3), api.OK)
	wantStamp(t, p, 3)
}

// Stamp is not more where the power goes, even if all is on the device already; the next Commit takes the same one.
func TestStampBehindALostCommit(t *testing.T) {
	l := sheets(100, 3, 1)
	for k := range 8 {
		d, p := formatted(t, 60)
		wantCommit(t, p, sheets(1, 3, 1), api.OK)
		d.Fail(k)
		wantCommit(t, p, l, api.ErrLost)
		wantStamp(t, p, 3)
		wantCommit(t, p, l, api.ErrLost)
		wantRead(t, p, 3, nil, api.ErrLost)
		d.Crash(slices.Repeat([]bool{true}, 2), -1, 0)
		wantStamp(t, p, 3)
		wantCommit(t, p, l, api.OK)
		wantStamp(t, p, 4)
		wantRead(t, p, 3, body(100), api.OK)
		wantStamp(t, opened(t, d), 4)
	}
}

func TestManyCommits(t *testing.T) {
	d, p := formatted(t, 60)
	for c := range 600 {
		wantCommit(t, p, sheets(c%250, c%12, (c+5)%12), api.OK)
		wantStamp(t, p, 3+c)
	}
	was := contents(t, p)
	q := opened(t, d)
	wantStamp(t, q, 602)
	if !same(contents(t, q), was) {
		t.Errorf("opened again the pages are others")
	}
}
