package store_test

import (
	"slices"
	"testing"

	"vaultkeel/api"
)

// wantNothingToCommit asks for a Commit that says nothing and does no step.
func (x *bench) wantNothingToCommit() {
	x.t.Helper()
	x.wantDirty()
	was := sectors(x.t, x.device)
	x.device.Fail(0)
	wantTold(x.t, "Commit of nothing", x.store.Commit(), api.OK)
	x.want("Commit of nothing")
	if x.device.Down() || !same(sectors(x.t, x.device), was) {
		x.t.Errorf("Commit of nothing did a step")
	}
	x.device.Fail(-1)
}

func TestAbortOfNothing(t *testing.T) {
	x := created(t, 60)
	x.abort()
	x.wantNothingToCommit()
	x.some()
	x.abort()
	x.abort()
	x.wantNothingToCommit()
	x = openedOn(t, x.device, x.kept, 3)
	x.abort()
	x.wantNothingToCommit()
}

// Abort does nothing with the device, and needs no power.
func TestAbortIsNoStep(t *testing.T) {
	x := created(t, 60)
	x.some()
	x.write(1, 288, 0, counted(7, 30))
	x.device.Fail(0)
	x.abort()
	if x.device.Down() || len(x.device.Pending()) != 0 {
		t.Errorf("Abort did a step")
	}
	x.write(1, 288, 0, counted(7, 30))
	pull(x.device)
	x.abort()
	x.device.Crash(nil, -1, 0)
	x.wantNothingToCommit()
}

func TestAbortOfChanges(t *testing.T) {
	for what, change := range changes() {
		x := wide(t)
		for c := range 3 {
			change(x)
			x.abort()
			x.wantNothingToCommit()
			x.wantOnDevice("Abort of " + what)
			x.touch(byte(50+c), 9+c, 20)
			x.commit()
		}
		change(x)
		x.commit()
		x.touch1(99)
		x.abort()
		x.wantNothingToCommit()
	}
}

// Behind Abort handles are as they were, and are given as they would have been then.
func TestAbortOfObjects(t *testing.T) {
	x := created(t, 60)
	x.some()
	for range 3 {
		x.alloc(20, 1, 2, 320)
		x.alloc(4, 1, 4, 352)
		x.set(2, "c", 4)
		x.abort()
	}
	x.alloc(20, 1, 2, 320)
	x.commit()
	x.free(2)
	x.abort()
	if got, err := x.heap.Tag(2); got != 1 || err != nil {
		t.Errorf("Tag of what was freed and is there again: got %d, %v", got, err)
	}
}

func TestAbortBehindACommitThatFailed(t *testing.T) {
	x := wide(t)
	x.touch(1, from(9, 24, 1)...)
	x.fail(api.ErrFull)
	x.abort()
	x.wantNothingToCommit()
	for k := range 2*2 + 4 {
		for _, keep := range [][]bool{nil, {true}, slices.Repeat([]bool{true}, 60)} {
			x := wide(t)
			x.touch(1, 12, 30)
			x.device.Fail(k)
			x.fail(api.ErrLost)
			x.abort()
			x.fail(api.ErrLost)
			x.device.Crash(keep, -1, 0)
			x.abort()
			x.wantNothingToCommit()
			x.wantNothingToCommit()
		}
	}
}
