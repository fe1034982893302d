package run_test

import (
	"slices"
	"strconv"
	"testing"
)

// Behind a crash there is what was committed, and nothing else.
func TestCommit(t *testing.T) {
	wantTalk(t, slices.Concat(some(), []string{"commit", "ok"}, wantSome(), []string{"crash", "ok"}, wantSome())...)
	wantTalk(t, slices.Concat(some(), []string{"crash", "ok"}, wantNothing())...)
	wantTalk(t, slices.Concat(
		some(), []string{"commit", "ok", "write 1 0 ff", "ok", "set main 3", "old", "new 1 1", "2", "free 1", "ok", "stat", "2 11 725 701 3", "crash", "ok"}, wantSome(),
	)...)
	wantTalk(t, slices.Concat(some(), []string{
		"commit", "ok", "write 1 0 ff", "ok", "commit", "ok", "write 1 1 ee", "ok", "crash", "ok", "read 1 0 5", "ff00070809",
		"write 1 1 ee", "ok", "commit", "ok", "crash", "ok", "read 1 0 5", "ffee070809",
	})...)
}

// At most 23 pages at once: of more nothing is kept, and they are still there.
func TestCommitOfTooMany(t *testing.T) {
	pairs := []string{"new 736 0", "1"}
	for i := range 22 {
		pairs = append(pairs, "write 1 "+strconv.Itoa(32*i)+" 01", "ok")
	}
	wantTalk(t, slices.Concat(pairs, []string{"commit", "ok", "stamp", "3", "crash", "ok", "read 1 670 4", "00000100"})...) // with page 0
	pairs = append(pairs, "write 1 704 01", "ok")
	tooMany := slices.Concat(pairs, []string{"commit", "ErrFull", "stamp", "2", "commit", "ErrFull", "read 1 702 4", "00000100", "stat", "1 736 0 0 0"})
	wantTalk(t, slices.Concat(tooMany, []string{"crash", "ok"}, wantNothing(), []string{"stamp", "2"})...)
	wantTalk(t, slices.Concat(tooMany, []string{"abort", "ok"}, wantNothing())...)
	wantTalk(t, slices.Concat(tooMany, []string{"write 1 704 00", "ok", "commit", "ok", "stamp", "3", "crash", "ok", "read 1 672 1", "01", "read 1 704 1", "00"})...)
	wantTalk(t, slices.Concat(tooMany, []string{"cut 0", "ok", "commit", "ErrFull", "write 1 704 00", "ok", "commit", "ErrLost", "write 1 704 01", "ok", "commit", "ErrFull"})...)
}

// All is as it was kept.
func TestAbort(t *testing.T) {
	wantTalk(t, slices.Concat([]string{"abort", "ok"}, some(), []string{"abort", "ok"}, wantNothing(), []string{"abort", "ok"}, wantNothing())...)
	wantTalk(t, slices.Concat(
		some(), []string{"commit", "ok", "abort", "ok"}, wantSome(),
		[]string{"write 1 0 ff", "ok", "set main 3", "old", "free 1", "ok", "pack", "1", "new 9 9", "1", "stamp", "3", "abort", "ok", "stamp", "3"}, wantSome(),
		[]string{"crash", "ok", "abort", "ok"}, wantSome(),
	)...)
	wantTalk(t, slices.Concat(some(), []string{"abort", "ok", "commit", "ok", "stamp", "2", "crash", "ok"}, wantNothing())...)
	wantTalk(t, slices.Concat(some(), []string{"abort", "ok"}, some(), []string{"commit", "ok", "abort", "ok"}, wantSome())...)
}

// Of each Commit of something it is one more; 2 at first.
func TestStamp(t *testing.T) {
	wantTalk(t,
		"stamp", "2", "commit", "ok", "stamp", "2", "new 1 1", "1", "stamp", "2", "commit", "ok", "stamp", "3", "commit", "ok", "stamp", "3", "abort", "ok", "stamp", "3",
		"free 1", "ok", "commit", "ok", "stamp", "4", "crash", "ok", "stamp", "4", "new 1 1", "1", "commit", "ok", "stamp", "5", "new 1 1", "2", "free 2", "ok", "commit", "ok", "stamp", "5",
		"new 1 1", "2", "crash", "ok", "stamp", "5", "write 1 0 00", "ok", "commit", "ok", "stamp", "5", "write 1 0 01", "ok", "commit", "ok", "stamp", "6",
	)
	pairs := []string{"new 1 1", "1"}
	for i := range 80 {
		pairs = append(pairs, "write 1 0 "+string("0123456789abcdef"[(i+1)/16])+string("0123456789abcdef"[(i+1)%16]), "ok", "commit", "ok", "stamp", strconv.Itoa(3+i))
	}
	wantTalk(t, pairs...)
}
