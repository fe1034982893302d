package run_test

import (
	"slices"
	"testing"
)

// All steps at once: how many there were.
func TestPack(t *testing.T) {
	wantTalk(t, "pack", "0", "new 9 1", "1", "pack", "0", "free 1", "ok", "pack", "0")
	wantKept(t, some(),
		"pack", "1", "pack", "0", "stat", "2 15 721 721 1", "read 1 0 5", "0300070809", "read 3 0 10", "102132435465768798a9", "get main", "1")
	wantKept(t, append(news(10, 10, 0), same("ok", "free 1", "free 3", "free 6", "free 10", "write 9 2 0102")...),
		"stat", "6 60 676 646 4", "pack", "6", "stat", "6 60 676 676 1", "read 9 0 10", "00000102000000000000", "pack", "0", "new 676 0", "1", "new 1 0", "ErrFull")
	wantKept(t, append(news(4, 184, 0), same("ok", "free 2", "free 4")...),
		"new 185 0", "ErrFull", "pack", "1", "new 368 0", "2", "stat", "3 736 0 0 0")
}

func TestPackIsKept(t *testing.T) {
	wantTalk(t, slices.Concat(some(), []string{"commit", "ok", "pack", "1", "crash", "ok"}, wantSome(), []string{"pack", "1", "commit", "ok", "stamp", "4", "crash", "ok", "pack", "0", "stat", "2 15 721 721 1"})...)
	wantTalk(t, slices.Concat(some(), []string{"commit", "ok", "pack", "1", "abort", "ok"}, wantSome())...)
}

// How many were freed: those to whom nobody leads, by roots or by what these name.
func TestSweep(t *testing.T) {
	wantTalk(t, "sweep", "0", "new 9 1", "1", "sweep", "1", "sweep", "0", "stat", "0 0 736 736 1")
	wantKept(t, some(), slices.Concat([]string{"sweep", "0"}, wantSome(), []string{
		"write 1 0 00", "ok", "sweep", "1", "free 3", "ErrNone", "read 1 0 5", "0000070809", "sweep", "0", "unset main", "ok", "sweep", "1", "stat", "0 0 736 736 1",
	})...)
	wantKept(t, append(news(40, 2, 1), "set a 7", "new", "write 7 0 0809", "ok", "write 8 0 28", "ok"),
		"sweep", "37", "stat", "3 6 730 656 3", "read 9 0 0", "ErrNone", "read 40 0 2", "0000", "sweep", "0")
}

func TestSweepIsKept(t *testing.T) {
	lost := []string{"write 1 0 00", "ok", "sweep", "1"}
	wantTalk(t, slices.Concat(some(), []string{"commit", "ok"}, lost, []string{"abort", "ok"}, wantSome(), lost, []string{"crash", "ok"}, wantSome())...)
	wantTalk(t, slices.Concat(some(), []string{"commit", "ok"}, lost, []string{"commit", "ok", "crash", "ok", "stat", "1 5 731 731 1", "read 3 0 0", "ErrNone"})...)
}

// Objects, Used, Free, Most, Runs.
func TestStat(t *testing.T) {
	wantTalk(t, "stat", "0 0 736 736 1")
	wantKept(t, some(), "stat", "2 15 721 701 2", "free 3", "ok", "stat", "1 5 731 731 1")
	wantKept(t, []string{"new 736 0", "1"}, "stat", "1 736 0 0 0")
	wantKept(t, []string{"new 700 0", "1", "new 36 0", "2"}, "stat", "2 736 0 0 0", "free 1", "ok", "stat", "1 36 700 700 1", "new 3 0", "1", "stat", "2 39 697 697 1")
	wantKept(t, append(news(40, 18, 0), same("ok", "free 1", "free 2", "free 5", "free 39")...), "stat", "36 648 88 36 4")
	wantKept(t, append(news(23, 32, 0), same("ok", "free 2", "free 4", "free 6", "free 8", "free 10", "free 12")...), "stat", "17 544 192 32 6")
}

// None of it changes what a later line could tell.
func TestTellingChangesNothing(t *testing.T) {
	telling := []string{"stat", "2 15 721 701 2", "get main", "1", "read 1 0 5", "0300070809", "stamp", "2", "get other", "ErrNone", "read 2 0 1", "ErrNone"}
	wantTalk(t, slices.Concat(some(), times(4, telling...), []string{"commit", "ok", "stamp", "3", "crash", "ok"}, wantSome())...)
}
