package diff_test

import (
	"math"
	"testing"

	"vaultkeel/api"
	"vaultkeel/diff"
)

func TestTurn(t *testing.T) {
	wantTurned(t, changes(change(3, "ab", "xy")), changes(change(3, "xy", "ab")))
	wantTurned(t, changes(change(3, "ab", "xy"), change(0, "c", "d"), change(9, "e", "f")), changes(change(9, "f", "e"), change(0, "d", "c"), change(3, "xy", "ab")))
	wantTurned(t, changes(change(1, "a", "b"), change(1, "b", "c")), changes(change(1, "c", "b"), change(1, "b", "a")))
}

func TestTurnOfNone(t *testing.T) {
	wantTurned(t, nil, nil)
	wantTurned(t, []api.Change{}, nil)
	if l := diff.Turn(nil); len(l) != 0 {
		t.Errorf("Turn of nil: got %v", l)
	}
}

// TestTurnAsksNothing: also what is no right change is turned.
func TestTurnAsksNothing(t *testing.T) {
	wantTurned(t, changes(change(0, "", "abc"), change(5, "ab", "")), changes(change(5, "", "ab"), change(0, "abc", "")))
	wantTurned(t, changes(api.Change{At: 7}), changes(change(7, "", "")))
	for _, at := range []int{math.MinInt, -1, 0, 6400, 1 << 32, math.MaxInt} {
		wantTurned(t, changes(change(at, "a", "bcd"), change(at+1, "x", "y")), changes(change(at+1, "y", "x"), change(at, "bcd", "a")))
	}
	b := seq(10000)
	wantTurned(t, changes(api.Change{At: 1, Old: b[:9000], New: b[1000:]}), changes(api.Change{At: 1, Old: b[1000:], New: b[:9000]}))
}

// TestTurnOfMany: there is no bound.
func TestTurnOfMany(t *testing.T) {
	for _, n := range []int{199, 200, 201, 5000} {
		var l []api.Change
		want := make([]api.Change, n)
		for i := range n {
			c := api.Change{At: i * i, Old: seq(i % 9), New: seq(3 + i%4)}
			l = append(l, c)
			want[n-1-i] = api.Change{At: i * i, Old: c.New, New: c.Old}
		}
		wantTurned(t, l, want)
	}
}

// TestTurnOfOneList: lists that are all the same memory come out as lists of their own.
func TestTurnOfOneList(t *testing.T) {
	b := []byte("abcd")
	l := diff.Turn(changes(api.Change{At: 1, Old: b, New: b}, api.Change{At: 2, Old: b[1:], New: b[:2]}))
	if !sameChanges(l, changes(change(2, "ab", "bcd"), change(1, "abcd", "abcd"))) {
		t.Errorf("Turn: got %v", l)
	}
	wantOwn(t, "Turn", l)
	if string(b) != "abcd" {
		t.Error("what Turn gave is a part of what it was given")
	}
}

func TestTurnedLeadsBack(t *testing.T) {
	b := []byte("abcdef")
	l := changes(change(1, "bcd", "xyz"), change(3, "ze", "vw"), change(0, "axy", "pqr"), change(9, "", ""))
	wantApplied(t, b, l, []byte("pqrvwf"))
	wantApplied(t, []byte("pqrvwf"), diff.Turn(l), b)
	wantNotApplied(t, b, diff.Turn(l), api.ErrState)
}
