package store_test

import (
	"testing"

	"vaultkeel/api"
	"vaultkeel/device"
	"vaultkeel/store"
)

// The image has 32 bytes for each page, and there are at most 200.
func TestCreateHasAnImageWithNothing(t *testing.T) {
	for _, c := range []struct{ sectors, bytes int }{{57, 288}, {58, 320}, {60, 384}, {80, 1024}, {247, 6368}, {248, 6400}, {249, 6400}, {300, 6400}} {
		for _, d := range []*device.Device{made(t, c.sectors), filled(t, c.sectors)} {
			x := createdOn(t, d)
			if got := len(x.heap.Bytes()); got != c.bytes {
				t.Errorf("Create of %d sectors: an image of %d bytes, want %d", c.sectors, got, c.bytes)
			}
			x.wantDirty()
			wantPending(t, d)
			x.wantOnDevice("Create")
			openedOn(t, d, make([]byte, c.bytes), 2)
		}
	}
}

func TestCreateOfTooFewSectors(t *testing.T) {
	for _, n := range []int{1, 2, 47, 48, 49, 50, 55, 56} {
		d := filled(t, n)
		was := sectors(t, d)
		d.Fail(0)
		s, err := store.Create(d)
		wantNoStore(t, "Create", s, err, api.ErrRange)
		wantPending(t, d)
		if d.Down() {
			t.Errorf("Create of %d sectors did a step", n)
		}
		if !same(sectors(t, d), was) {
			t.Errorf("Create of %d sectors wrote to them", n)
		}
		pull(d)
		s, err = store.Create(d)
		wantNoStore(t, "Create of one that is down", s, err, api.ErrRange)
		wantPending(t, d)
	}
}

// Where ErrRange is told, what others have written is not flushed.
func TestCreateOfTooFewSectorsLeavesWhatIsPending(t *testing.T) {
	d := made(t, 56)
	if err := d.Write(50, counted(1, 32)); err != nil {
		t.Fatal(err)
	}
	s, err := store.Create(d)
	wantNoStore(t, "Create", s, err, api.ErrRange)
	wantPending(t, d, 50)
}

func createOn(d *device.Device) func() error {
	return func() error {
		_, err := store.Create(d)
		return err
	}
}

// createSteps are those of Format, then all pages, rising, and Flush.
func createSteps(n int) []step {
	l := []step{{0, marked(2)}, {1, zeros}, flush}
	for i := range min(n-48, 200) {
		l = append(l, step{48 + i, zeros})
	}
	return append(l, flush)
}

func TestCreateSteps(t *testing.T) {
	for _, n := range []int{57, 58} {
		laid := func() (*device.Device, func() error) {
			d := filled(t, n)
			return d, createOn(d)
		}
		wantSteps(t, laid, createSteps(n), losses)
	}
}

// Beyond the last page no sector is written.
func TestCreateStepsOfManySectors(t *testing.T) {
	for _, n := range []int{248, 300} {
		laid := func() (*device.Device, func() error) {
			d := filled(t, n)
			return d, createOn(d)
		}
		wantSteps(t, laid, createSteps(n), func(n int, _ ...int) []loss { return few(n)[:2] })
	}
}

func TestCreateOfOneThatIsDown(t *testing.T) {
	d := made(t, 60)
	pull(d)
	s, err := store.Create(d)
	wantNoStore(t, "Create", s, err, api.ErrLost)
	wantPending(t, d)
	for k := range 2 + 1 + 12 + 1 {
		d := made(t, 60)
		d.Fail(k)
		s, err := store.Create(d)
		wantNoStore(t, "Create with the power gone in it", s, err, api.ErrLost)
		d.Crash(nil, -1, 0)
		createdOn(t, d).some()
	}
}

// Whatever was kept on a device, of whatever stamp, behind Create it is as on a new one.
func TestCreateOfWhatWasUsed(t *testing.T) {
	for rounds := range 4 {
		x := created(t, 60)
		x.some()
		for c := range rounds {
			x.write(1, 288, 0, counted(5+c, 32))
			x.commit()
		}
		y := createdOn(t, x.device)
		y.wantOnDevice("Create")
		y.some()
		openedOn(t, y.device, y.kept, 3)
	}
}
