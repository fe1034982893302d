package view_test

import (
	"bytes"
	"slices"
	"testing"

	"vaultkeel/api"
	"vaultkeel/device"
	"vaultkeel/pages"
)

// spread writes to pages 7, 1, 4 and 5, in this order.
func (s *sheet) spread(c int) {
	s.t.Helper()
	s.write(7*32+9, filling(c, 3), api.OK)
	s.write(32, filling(c+1, 32), api.OK)
	s.write(5*32-4, filling(c+2, 8), api.OK)
}

func TestCommitIsKept(t *testing.T) {
	s := sheetOf(t, 9)
	for c := range 5 {
		s.spread(c)
		s.want("ahead of Commit")
		s.commit(api.OK)
		s.want("behind Commit")
		wantStamp(t, s.pages, 3+c)
		p, again := reopened(t, s.device)
		wantStamp(t, p, 3+c)
		wantBytes(t, "opened again", again, s.now)
	}
}

// All are committed at once, rising: so stand their bodies behind the mark, and their numbers in it.
func TestCommitIsOneOfPages(t *testing.T) {
	s := sheetOf(t, 9)
	s.spread(1)
	s.device.Fail(4 + 1 + 1 + 1 + 4 + 1)
	s.commit(api.OK)
	all := sectors(t, s.device)
	if got := all[25*32 : 29*32]; !bytes.Equal(got, slices.Concat(s.now[32:64], s.now[4*32:6*32], s.now[7*32:8*32])) {
		t.Errorf("the bodies behind the mark are others: %v", got)
	}
	if got := all[32 : 32+9]; !bytes.Equal(got, []byte{3, 0, 0, 0, 4, 1, 4, 5, 7}) {
		t.Errorf("the mark is another: %v", got)
	}
	if !bytes.Equal(all[48*32:], s.now) {
		t.Errorf("the pages are others")
	}
	if err := s.device.Flush(); err == nil {
		t.Errorf("Commit did fewer steps than one of four pages has")
	}
}

func TestCommitOfNone(t *testing.T) {
	s := sheetOf(t, 3)
	was := sectors(t, s.device)
	s.device.Fail(0)
	s.commit(api.OK)
	s.write(96, nil, api.OK)
	s.commit(api.OK)
	if s.device.Down() || len(s.device.Pending()) != 0 || !bytes.Equal(sectors(t, s.device), was) {
		t.Errorf("Commit of none did a step")
	}
	wantStamp(t, s.pages, 2)
	pull(s.device)
	s.commit(api.ErrLost)
	s.want("of none, with the power gone")
	s.device.Crash(nil, -1, 0)
	s.commit(api.OK)
	wantStamp(t, s.pages, 2)
}

func TestCommitTwice(t *testing.T) {
	s := sheetOf(t, 9)
	s.spread(1)
	s.commit(api.OK)
	was := sectors(t, s.device)
	s.commit(api.OK)
	wantStamp(t, s.pages, 3)
	if !bytes.Equal(sectors(t, s.device), was) {
		t.Errorf("what was committed is committed once more")
	}
}

func TestCommitOfADeviceThatIsDown(t *testing.T) {
	s := sheetOf(t, 9)
	s.spread(1)
	s.commit(api.OK)
	s.spread(4)
	pull(s.device)
	s.commit(api.ErrLost)
	s.want("with the power gone")
	s.commit(api.ErrLost)
	s.want("with the power still gone")
	wantStamp(t, s.pages, 3)
	s.device.Crash(nil, -1, 0)
	s.want("with the power back")
	s.write(0, filling(7, 32), api.OK)
	s.commit(api.OK)
	s.want("committed")
	wantStamp(t, s.pages, 4)
	_, again := reopened(t, s.device)
	wantBytes(t, "opened again", again, s.now)
}

// keeps of what is pending when the power goes: none, all, and the first alone.
var keeps = [][]bool{nil, slices.Repeat([]bool{true}, 60), {true}}

// spreadSteps is how many steps a Commit behind spread has.
const spreadSteps = 2*4 + 4

// lost gives a sheet with a Commit behind it, and a second one in which the power went at a step.
func lost(t *testing.T, k int) *sheet {
	t.Helper()
	s := sheetOf(t, 9)
	s.spread(1)
	s.commit(api.OK)
	s.spread(4)
	s.write(3*32, filling(7, 1), api.OK)
	s.write(3*32, s.kept[3*32:3*32+1], api.OK)
	s.device.Fail(k)
	s.commit(api.ErrLost)
	s.want("with the power gone")
	wantStamp(t, s.pages, 3)
	return s
}

func TestThePowerGoesInCommitAndItIsDoneAgain(t *testing.T) {
	for k := range spreadSteps + 2 {
		for _, keep := range keeps {
			s := lost(t, k)
			s.device.Crash(keep, -1, 0)
			s.want("with the power back")
			s.commit(api.OK)
			s.want("committed")
			wantStamp(t, s.pages, 4)
			_, again := reopened(t, s.device)
			wantBytes(t, "opened again", again, s.now)
		}
	}
}

func TestThePowerGoesInCommitAndItIsForgotten(t *testing.T) {
	for k := range spreadSteps + 2 {
		for _, keep := range keeps {
			s := lost(t, k)
			if k%2 == 0 {
				s.device.Crash(keep, -1, 0)
			}
			s.abort()
			s.want("behind Abort")
			s.device.Crash(keep, -1, 0)
			s.want("behind Abort, with the power back")
			s.commit(api.OK)
			wantStamp(t, s.pages, 3)
		}
	}
}

func TestThePowerGoesInCommitAndItIsOpened(t *testing.T) {
	for k := range spreadSteps + 2 {
		for _, keep := range keeps {
			s := lost(t, k)
			s.device.Crash(keep, -1, 0)
			p, again := reopened(t, s.device)
			want := s.kept
			if p.Stamp() == 4 {
				want = s.now
			}
			wantBytes(t, "opened again", again, want)
			if got := again.Dirty(); len(got) != 0 {
				t.Errorf("opened again: Dirty: got %v", got)
			}
		}
	}
}

// Of a Commit's error that is not the device's all stays dirty, too: there is no stamp behind the greatest.
func TestCommitAtTheGreatestStamp(t *testing.T) {
	d, err := device.New(51)
	if err != nil {
		t.Fatal(err)
	}
	mark := make([]byte, 32)
	for _, i := range []int{0, 1, 2, 3, 28, 29, 30, 31} {
		mark[i] = 255
	}
	if err := d.Write(1, mark); err != nil {
		t.Fatal(err)
	}
	p, err := pages.Open(d)
	if err != nil {
		t.Fatal(err)
	}
	s := &sheet{t, d, p, viewOf(t, p), make([]byte, 96), make([]byte, 96), nil}
	s.write(20, filling(1, 20), api.OK)
	s.commit(api.ErrRange)
	s.want("behind Commit")
	s.abort()
	s.want("behind Abort")
	s.commit(api.OK)
}

// acts on three pages, of which some overlap.
func acts() []func(*sheet) {
	return []func(*sheet){
		func(s *sheet) { s.write(3, []byte{1, 2}, api.OK) },
		func(s *sheet) { s.write(31, []byte{3, 4}, api.OK) },
		func(s *sheet) { s.write(4, filling(2, 64), api.OK) },
		func(s *sheet) { s.write(95, []byte{5, 6}, api.ErrRange) },
		func(s *sheet) { s.commit(api.OK) },
		func(s *sheet) {
			if len(s.dirty) == 0 {
				return
			}
			s.device.Fail(len(s.dirty) + 2)
			s.commit(api.ErrLost)
			s.device.Crash(nil, -1, 0)
		},
		func(s *sheet) { s.abort() },
	}
}

// Every four acts in a row are held against what is to be told.
func TestAllActsInARow(t *testing.T) {
	all := acts()
	for k := range len(all) * len(all) * len(all) * len(all) {
		s := sheetOf(t, 3)
		for x, left := k, 4; left > 0; x, left = x/len(all), left-1 {
			all[x%len(all)](s)
			s.want("an act")
		}
		if t.Failed() {
			t.Fatalf("acts of row %d", k)
		}
	}
}
