package run

import (
	"bytes"
	"errors"
	"slices"
	"testing"

	"vaultkeel/api"
)

// No text makes a Store that can't be opened, so that the device is written to beside it here.

func begun(t *testing.T) *session {
	t.Helper()
	s, err := begin()
	if err != nil {
		t.Fatalf("begin: %v", err)
	}
	return s
}

func wantAnswers(t *testing.T, s *session, pairs ...string) {
	t.Helper()
	for i := 0; i < len(pairs); i += 2 {
		if got := s.answer(pairs[i]); got != pairs[i+1] {
			t.Fatalf("line %d, %q: got %q, want %q", i/2+1, pairs[i], got, pairs[i+1])
		}
	}
}

// lay a sector; what is not flushed is pending.
func lay(t *testing.T, s *session, i int, c byte) {
	t.Helper()
	if err := s.device.Write(i, slices.Repeat([]byte{c}, api.Sector)); err != nil {
		t.Fatalf("Write: %v", err)
	}
}

// Where the Store can't be opened there is still the one ahead, with what was not committed, too.
func TestCrashOfWhatCannotBeOpened(t *testing.T) {
	for _, c := range []struct {
		sectors []int // each is written full of 99, which is no mark, and no right handle or root
		want    string
	}{
		{[]int{0, 1}, "ErrNone"},       // both marks
		{[]int{48 + 1}, "ErrState"},    // handles
		{[]int{48 + 7}, "ErrState"},    // roots
		{[]int{0, 48 + 1}, "ErrState"}, // the other mark is still there
	} {
		for _, isFlushed := range []bool{true, false} {
			s := begun(t)
			wantAnswers(t, s, "new 5 1", "1", "commit", "ok", "write 1 0 ab", "ok")
			for _, i := range c.sectors {
				lay(t, s, i, 99)
			}
			if isFlushed {
				if err := s.device.Flush(); err != nil {
					t.Fatalf("Flush: %v", err)
				}
			}
			ahead := s.store
			wantAnswers(t, s, "crash", c.want, "stamp", "3", "read 1 0 5", "ab00000000", "stat", "1 5 731 731 1", "crash", c.want)
			if s.store != ahead {
				t.Errorf("sectors %v: the Store is another one", c.sectors)
			}
			wantAnswers(t, s, "abort", "ok", "read 1 0 5", "0000000000", "write 1 0 cd", "ok", "commit", "ok", "stamp", "4", "read 1 0 1", "cd")
		}
	}
}

// The power is back even if the Store can't be opened.
func TestCrashGoneOfWhatCannotBeOpened(t *testing.T) {
	s := begun(t)
	wantAnswers(t, s, "new 5 1", "1", "commit", "ok", "write 1 0 ab", "ok")
	lay(t, s, 0, 99)
	lay(t, s, 1, 99)
	wantAnswers(t, s, "cut 0", "ok", "commit", "ErrLost", "crash", "ErrNone", "stamp", "3", "read 1 0 5", "ab00000000")
	if s.device.Down() || len(s.device.Pending()) != 0 {
		t.Errorf("the power is still gone, or %v are pending", s.device.Pending())
	}
}

// By the one ahead it is mended, and can be opened then.
func TestCrashMended(t *testing.T) {
	s := begun(t)
	wantAnswers(t, s, "new 5 1", "1", "commit", "ok", "write 1 0 ab", "ok")
	lay(t, s, 0, 99)
	lay(t, s, 1, 99)
	wantAnswers(t, s, "crash", "ErrNone", "commit", "ok", "stamp", "4", "write 1 1 cd", "ok", "crash", "ok", "stamp", "4", "read 1 0 5", "ab00000000")
}

// All that is pending is kept, and none of it torn.
func TestCrashKeepsAllPending(t *testing.T) {
	for _, isDown := range []bool{false, true} {
		s := begun(t)
		for i := 60; i < 80; i++ {
			lay(t, s, i, byte(i))
		}
		if isDown {
			wantAnswers(t, s, "cut 0", "ok")
			if err := s.device.Flush(); !errors.Is(err, api.ErrLost) {
				t.Fatalf("Flush: %v", err)
			}
		}
		wantAnswers(t, s, "crash", "ok")
		if got := s.device.Pending(); len(got) != 0 || s.device.Down() {
			t.Errorf("behind a crash %v are pending", got)
		}
		for i := 60; i < 80; i++ {
			if b, err := s.device.Read(i); err != nil || !bytes.Equal(b, slices.Repeat([]byte{byte(i)}, api.Sector)) {
				t.Errorf("sector %d: got %v, %v", i, b, err)
			}
		}
	}
}

// wrapping is an error that wraps another one, as those of a layer may.
type wrapping struct{ err error }

func (w wrapping) Error() string { return "wrapped" }
func (w wrapping) Unwrap() error { return w.err }

// An error is told by its name, wrapped or not.
func TestTold(t *testing.T) {
	for i, want := range []string{1: "ErrRange", 2: "ErrSyntax", 3: "ErrShape", 4: "ErrFull", 5: "ErrNone", 6: "ErrState", 7: "ErrClash", 8: "ErrTag", 9: "ErrLost"} {
		if i == 0 {
			continue
		}
		e := api.Errno(i)
		if told(e) != want || told(wrapping{e}) != want || told(wrapping{wrapping{e}}) != want {
			t.Errorf("%d is told %q, %q, %q; want %q", i, told(e), told(wrapping{e}), told(wrapping{wrapping{e}}), want)
		}
	}
	if told(nil) != "ok" || told(errBad) != "bad" || told(wrapping{errBad}) != "bad" {
		t.Errorf("none is told %q, and bad %q, %q", told(nil), told(errBad), told(wrapping{errBad}))
	}
}

// With an error there is no other answer.
func TestAnswersWithErrors(t *testing.T) {
	for i, got := range []string{number(7, api.ErrFull), numbers(api.Stat{Objects: 7}, api.ErrFull), newOrOld(true, api.ErrFull), newOrOld(false, api.ErrFull), hex([]byte{7}, api.ErrFull)} {
		if got != "ErrFull" {
			t.Errorf("answer %d: got %q", i, got)
		}
	}
}

// Lines may be left ahead of their end, and gone over again.
func TestLinesLeft(t *testing.T) {
	all := lines("a\n\nb\n")
	for n := range 4 {
		var got []string
		for line := range all {
			if len(got) == n {
				break
			}
			got = append(got, line)
		}
		if want := []string{"a", "", "b"}[:n]; !slices.Equal(got, want) {
			t.Errorf("%d lines: got %q, want %q", n, got, want)
		}
	}
}

// The device has 80 sectors.
func TestSectors(t *testing.T) {
	if got := begun(t).device.Len(); got != 80 {
		t.Errorf("got %d sectors", got)
	}
}
