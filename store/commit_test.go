package store_test

import (
	"slices"
	"testing"

	"vaultkeel/api"
	"vaultkeel/device"
)

// wide gives a Store of 64 pages whose first object has the 31 pages from 9 on, and some bytes of the next one.
func wide(t *testing.T) *bench {
	t.Helper()
	x := created(t, 112)
	x.alloc(1000, 0, 1, 288)
	x.commit()
	return x
}

// touch changes one byte in each of some pages of the first object.
func (x *bench) touch(c byte, numbers ...int) {
	x.t.Helper()
	for _, i := range numbers {
		x.write(1, 288, 32*(i-9)+i%32, []byte{c})
	}
}

// from gives n pages from i on, each so many behind the one ahead.
func from(i, n, apart int) (l []int) {
	for k := range n {
		l = append(l, i+k*apart)
	}
	return l
}

func TestCommitOfNothing(t *testing.T) {
	x := created(t, 60)
	for _, lay := range []func(){func() {}, x.some, func() {}} {
		lay()
		was := sectors(t, x.device)
		x.device.Fail(0)
		wantTold(t, "Commit of nothing", x.store.Commit(), api.OK)
		x.want("Commit of nothing")
		if x.device.Down() || len(x.device.Pending()) != 0 || !same(sectors(t, x.device), was) {
			t.Errorf("Commit of nothing did a step")
		}
		x.device.Fail(-1)
	}
	if x.stamp != 3 {
		t.Errorf("Stamp behind one Commit of something: %d", x.stamp)
	}
}

// What was changed and changed back is nothing.
func TestCommitOfWhatIsAsItWas(t *testing.T) {
	x := created(t, 60)
	x.some()
	x.write(1, 288, 4, counted(7, 20))
	x.write(1, 288, 4, x.kept[292:312])
	x.write(3, 340, 0, x.kept[340:352])
	x.device.Fail(0)
	wantTold(t, "Commit", x.store.Commit(), api.OK)
	x.want("Commit")
	if x.device.Down() {
		t.Errorf("Commit of what is as it was did a step")
	}
}

func TestCommitOfNothingWithThePowerGone(t *testing.T) {
	x := created(t, 60)
	x.some()
	pull(x.device)
	x.fail(api.ErrLost)
	x.device.Crash(nil, -1, 0)
	x.commit()
	if x.stamp != 3 {
		t.Errorf("Stamp: got %d", x.stamp)
	}
}

// changes of one page, of several, of those that an object begins and ends in, of roots, and of as many as may be.
func changes() map[string]func(*bench) {
	return map[string]func(*bench){
		"one":             func(x *bench) { x.touch(1, 20) },
		"the last byte":   func(x *bench) { x.write(1, 288, 999, []byte{1}) },
		"two":             func(x *bench) { x.write(1, 288, 31, []byte{1, 2}) },
		"some":            func(x *bench) { x.touch(2, 38, 9, 17, 18) },
		"an object":       func(x *bench) { x.alloc(9, 2, 2, 1288) },
		"a root":          func(x *bench) { x.set(0, "main", 1) },
		"a root and more": func(x *bench) { x.set(0, "main", 1); x.touch(3, 30); x.alloc(1, 0, 2, 1288) },
		"freed":           func(x *bench) { x.free(1) },
		"23":              func(x *bench) { x.write(1, 288, 0, counted(1, 23*32)) },
		"23 others":       func(x *bench) { x.write(1, 288, 8*32-1, counted(2, 22*32+1)) },
	}
}

// Just the pages that differ are committed, rising, by chapter 4's steps; at the first stamps, so that both marks are asked.
func TestCommitSteps(t *testing.T) {
	for what, change := range changes() {
		for rounds := range 2 {
			var steps []step
			laid := func() (*device.Device, func() error) {
				x := wide(t)
				for range rounds {
					x.touch(9, 21, 39)
					x.commit()
				}
				change(x)
				steps = commitSteps(x.kept, x.now, x.stamp+1)
				return x.device, x.store.Commit
			}
			laid()
			lost := losses
			if len(steps) > 12 {
				lost = few
			}
			wantSteps(t, laid, steps, lost)
			if t.Failed() {
				t.Fatalf("of %s, behind %d Commits", what, rounds)
			}
		}
	}
}

func TestCommitIsKept(t *testing.T) {
	for what, change := range changes() {
		x := wide(t)
		change(x)
		x.commit()
		if x.stamp != 4 {
			t.Errorf("of %s: Stamp: got %d, want 4", what, x.stamp)
		}
		x.touch1(77)
		x.commit()
		x = openedOn(t, x.device, x.kept, x.stamp)
		x.touch1(78)
		x.commit()
	}
}

// touch1 changes the first object, or makes one, if there is none.
func (x *bench) touch1(c byte) {
	x.t.Helper()
	if _, err := x.heap.Size(1); err != nil {
		x.alloc(1000, 0, 1, 288)
	}
	x.touch(c, 10, 12)
}

// As many as may be committed at once are; of one more nothing is kept, and all is still there in the Heap.
func TestCommitOfTooMany(t *testing.T) {
	for _, numbers := range [][]int{from(9, 24, 1), from(16, 24, 1), append(from(9, 23, 1), 39)} {
		x := wide(t)
		x.touch(1, numbers[:23]...)
		x.commit()
		x.touch(2, numbers...)
		was := sectors(t, x.device)
		x.device.Fail(0)
		x.fail(api.ErrFull)
		x.wantDirty(numbers...)
		wantPending(t, x.device)
		if x.device.Down() || !same(sectors(t, x.device), was) {
			t.Errorf("Commit of 24 pages did a step")
		}
		x.device.Fail(-1)
		x.wantOnDevice("Commit of 24 pages")
		x.touch(1, numbers[5])
		x.wantDirty(slices.Concat(numbers[:5], numbers[6:])...)
		x.device.Fail(2*23 + 4)
		wantTold(t, "Commit of 23 pages behind one of 24", x.store.Commit(), api.OK)
		wantTold(t, "the step behind it", x.device.Flush(), api.ErrLost)
	}
}

// The pages of Head count as all others do.
func TestCommitOfTooManyWithHead(t *testing.T) {
	x := wide(t)
	x.touch(1, from(9, 22, 1)...)
	x.set(0, "main", 1)
	x.alloc(5, 5, 2, 1288)
	x.fail(api.ErrFull)
	x.free(2)
	x.commit()
}

// Nothing of what is too much is kept, however it goes on.
func TestCommitOfTooManyIsForgotten(t *testing.T) {
	x := wide(t)
	x.touch(1, 12, 13)
	x.commit()
	x.touch(2, from(9, 30, 1)...)
	x.fail(api.ErrFull)
	openedOn(t, twin(t, x.device), x.kept, 4)
	x.abort()
	x.commit()
	x.touch(3, 14)
	x.commit()
}

// All 200 pages: those from 9 on have objects.
func TestCommitOnTheGreatestImage(t *testing.T) {
	x := created(t, 300)
	for handle := 1; handle <= 6; handle++ {
		x.alloc(1000, handle, handle, 1000*handle-712)
	}
	x.alloc(112, 0, 7, 6288)
	x.commit()
	x.write(7, 6288, 111, []byte{1})
	x.wantDirty(199)
	x.commit()
	for handle := 1; handle <= 6; handle++ {
		x.write(handle, 1000*handle-712, 0, counted(handle, 1000))
	}
	x.write(7, 6288, 0, counted(7, 112))
	x.wantDirty(from(9, 191, 1)...)
	x.fail(api.ErrFull)
	x.abort()
	x.write(6, 5288, 300, counted(6, 700))
	x.commit()
	openedOn(t, x.device, x.kept, 5)
}

// ErrFull is told ahead of what the device says.
func TestCommitOfTooManyWithThePowerGone(t *testing.T) {
	x := wide(t)
	x.touch(1, from(9, 24, 1)...)
	pull(x.device)
	x.fail(api.ErrFull)
	x.touch(0, 9)
	x.fail(api.ErrLost)
	x.device.Crash(nil, -1, 0)
	x.commit()
}

func TestCommitWithThePowerGone(t *testing.T) {
	x := created(t, 60)
	x.some()
	x.write(1, 288, 0, counted(4, 9))
	pull(x.device)
	x.fail(api.ErrLost)
	wantPending(t, x.device)
	x.write(3, 340, 0, counted(5, 9))
	x.fail(api.ErrLost)
	x.device.Crash(nil, -1, 0)
	x.want("the power coming back")
	x.wantOnDevice("the power coming back")
	x.commit()
	if x.stamp != 4 {
		t.Errorf("Stamp: got %d, want 4", x.stamp)
	}
}

// Where no Commit was begun, the one that comes behind it has chapter 4's steps, and no others.
func TestCommitStepsBehindErrors(t *testing.T) {
	laid := func() (*device.Device, func() error) {
		x := wide(t)
		x.touch(1, from(9, 24, 1)...)
		x.fail(api.ErrFull)
		x.abort()
		x.touch(2, 13, 11)
		pull(x.device)
		x.fail(api.ErrLost)
		x.device.Crash(nil, -1, 0)
		return x.device, x.store.Commit
	}
	x := wide(t)
	x.touch(2, 11, 13)
	wantSteps(t, laid, commitSteps(x.kept, x.now, 4), few)
}

// The power goes at each step: ErrLost, and what is told is as it was ahead.
func TestCommitWithThePowerGoneInIt(t *testing.T) {
	for k := range 2*4 + 4 {
		x := wide(t)
		x.touch(1, 38, 9, 17, 18)
		x.device.Fail(k)
		x.fail(api.ErrLost)
		x.wantDirty(9, 17, 18, 38)
		if !x.device.Down() {
			t.Errorf("step %d: the power is not gone", k)
		}
	}
	x := wide(t)
	x.touch(1, 38, 9, 17, 18)
	x.device.Fail(2*4 + 4)
	wantTold(t, "Commit with the power gone behind it", x.store.Commit(), api.OK)
}

// There is no stamp behind the greatest: chapter 3's error, ahead of all writing.
func TestCommitAtTheGreatestStamp(t *testing.T) {
	d := holding(t, right())
	lay(t, d, map[int][]byte{1: marked(1<<32 - 2)})
	x := openedOn(t, d, right(), 1<<32-2)
	x.write(1, 288, 0, []byte{1, 2})
	x.commit()
	x.write(1, 288, 0, []byte{3})
	x.fail(api.ErrRange)
	x.wantOnDevice("Commit with an error")
	x.abort()
	x.commit()
}
