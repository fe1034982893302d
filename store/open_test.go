package store_test

import (
	"testing"

	"vaultkeel/api"
	"vaultkeel/device"
	"vaultkeel/store"
)

func openOn(d *device.Device) func() error {
	return func() error {
		_, err := store.Open(d)
		return err
	}
}

func TestOpenWhatWasCreated(t *testing.T) {
	for _, n := range []int{57, 60, 248, 300} {
		x := created(t, n)
		for range 3 {
			x = openedOn(t, x.device, x.kept, 2)
			x.wantDirty()
		}
	}
}

func TestOpenBehindCommits(t *testing.T) {
	x := created(t, 60)
	x.some()
	for c := range 5 {
		x = openedOn(t, x.device, x.kept, 3+c)
		x.wantDirty()
		x.write(3, 340, c, counted(c, 5))
		x.commit()
	}
}

// What was done and not committed is not there.
func TestOpenBehindWhatWasNotCommitted(t *testing.T) {
	x := created(t, 60)
	x.some()
	x.write(1, 288, 3, counted(6, 9))
	x.alloc(20, 1, 2, 320)
	openedOn(t, x.device, x.kept, 3)
}

func TestOpenOfTooFewSectors(t *testing.T) {
	for _, n := range []int{1, 2, 47, 48} {
		d := made(t, n)
		s, err := store.Open(d)
		wantNoStore(t, "Open", s, err, api.ErrRange)
		pull(d)
		s, err = store.Open(d)
		wantNoStore(t, "Open of one that is down", s, err, api.ErrRange)
	}
}

// Chapter 4's errors come ahead of ErrState, also where there are fewer pages than an image has.
func TestOpenWithoutAMark(t *testing.T) {
	for _, n := range []int{49, 56, 57, 60, 300} {
		d := made(t, n)
		s, err := store.Open(d)
		wantNoStore(t, "Open of a new device", s, err, api.ErrNone)
		d = filled(t, n)
		s, err = store.Open(d)
		wantNoStore(t, "Open of one with other bytes", s, err, api.ErrNone)
		lay(t, d, map[int][]byte{0: marked(4, 24), 1: marked(5, 1, byte(min(n-48, 200)))})
		s, err = store.Open(d)
		wantNoStore(t, "Open of marks that are not right", s, err, api.ErrNone)
		pull(d)
		s, err = store.Open(d)
		wantNoStore(t, "Open of one that is down", s, err, api.ErrLost)
	}
}

func TestOpenOfOneThatIsDown(t *testing.T) {
	x := created(t, 60)
	x.some()
	pull(x.device)
	s, err := store.Open(x.device)
	wantNoStore(t, "Open", s, err, api.ErrLost)
	x.device.Crash(nil, -1, 0)
	openedOn(t, x.device, x.kept, 3)
}

func TestOpenOfFewerPagesThanAnImageHas(t *testing.T) {
	for n := 1; n <= 8; n++ {
		s, err := store.Open(holding(t, make([]byte, 32*n)))
		wantNoStore(t, "Open", s, err, api.ErrState)
		d := holding(t, make([]byte, 32*n))
		d.Fail(0)
		s, err = store.Open(d)
		wantNoStore(t, "Open with the power gone in it", s, err, api.ErrLost)
	}
	openedOn(t, holding(t, make([]byte, 288)), make([]byte, 288), 2)
}

// right gives an image of 384 bytes without a fault: three objects, one close behind the other, and a root.
func right() []byte {
	b := replaced(make([]byte, 384), 288, counted(1, 96)...)
	b = object(b, 1, 1, 288, 10)
	b = object(b, 2, 16, 298, 20)
	b = object(b, 40, 3, 383, 1)
	return rooted(b, 7, "main", 40)
}

// faults gives images that have just one fault each, or one and another that comes of it.
func faults() map[string][]byte {
	return map[string][]byte{
		"Stray, ahead of Head":    object(right(), 3, 1, 287, 1),
		"Stray, not wholly there": object(right(), 3, 1, 383, 2),
		"Stray, no bytes":         object(right(), 3, 1, 330, 0),
		"Stray, of its tag":       object(right(), 3, 17, 330, 1),
		"Over":                    object(right(), 3, 1, 317, 2),
		"Over, of the last":       object(right(), 39, 1, 383, 1),
		"Empty, of its At":        object(right(), 3, 0, 1, 0),
		"Empty, of its Len":       object(right(), 40, 0, 0, 256),
		"Bad, of its name":        rooted(right(), 0, "Main", 1),
		"Bad, of its handle":      rooted(right(), 0, "b", 3),
		"Bad, of a byte between":  replaced(right(), 286, 1),
		"Bad, of one byte alone":  replaced(right(), 287-11, 1),
		"Twice":                   rooted(right(), 3, "main", 1),
	}
}

func TestOpenOfAnImageWithAFault(t *testing.T) {
	openedOn(t, holding(t, right()), right(), 2)
	for what, b := range faults() {
		d := holding(t, b)
		for range 2 {
			s, err := store.Open(d)
			wantNoStore(t, what, s, err, api.ErrState)
		}
		createdOn(t, d).some()
	}
}

// It is asked what the pages have behind chapter 4's Open: what is brought to them may make a fault, or mend it.
func TestOpenAsksWhatIsBroughtToThePages(t *testing.T) {
	bad := faults()["Over"]
	d := holding(t, right())
	lay(t, d, map[int][]byte{1: marked(5, 1, 0), 25: bad[:32]})
	s, err := store.Open(d)
	wantNoStore(t, "Open of what makes a fault", s, err, api.ErrState)

	d = holding(t, bad)
	lay(t, d, map[int][]byte{1: marked(5, 1, 0), 25: right()[:32]})
	openedOn(t, d, right(), 5)
}

// Open does the steps of chapter 4's, and no other.
func TestOpenSteps(t *testing.T) {
	laid := func() (*device.Device, func() error) {
		x := created(t, 60)
		x.some()
		return x.device, openOn(x.device)
	}
	x := created(t, 60)
	x.some()
	var steps []step
	for _, i := range []int{0, 6, 9, 10} {
		steps = append(steps, step{48 + i, x.kept[32*i : 32*i+32]})
	}
	wantSteps(t, laid, append(steps, flush), losses)
}
