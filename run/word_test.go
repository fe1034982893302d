package run_test

import (
	"slices"
	"strings"
	"testing"
)

// wantBad asks that lines are bad, and that nothing is done by them: neither to what is kept, nor to what is not, nor to the power.
func wantBad(t *testing.T, lines ...string) {
	t.Helper()
	for _, line := range lines {
		wantTalk(t, slices.Concat(some(), []string{line, "bad"}, wantSome(), []string{"stamp", "2", "commit", "ok", "stamp", "3"})...)
		wantTalk(t, slices.Concat(some(), []string{"commit", "ok", line, "bad", "stamp", "3"}, wantSome())...)
		wantRun(t, line+"\n", "bad\n")
	}
}

// A name may be any word, so that what is wrong with it is told by the name of an error.
func lastIsName(row string) bool {
	return strings.HasPrefix(row, "get") || strings.HasPrefix(row, "unset")
}

// Each row as it stands in the table is taken.
func TestRowsAreTaken(t *testing.T) {
	wantTalk(t,
		"new 5 1", "1", "free 1", "ok", "new 5 1", "1", "write 1 0 00ff", "ok", "read 1 0 4", "00ff0000",
		"set main 1", "new", "get main", "1", "unset main", "ok", "commit", "ok", "abort", "ok", "stamp", "3",
		"cut 3", "ok", "crash", "ok", "pack", "0", "sweep", "1", "stat", "0 0 736 736 1",
	)
}

func TestWordsTooFewOrTooMany(t *testing.T) {
	for _, row := range rows() {
		words := strings.Split(row, " ")
		for n := 1; n < len(words); n++ {
			wantBad(t, strings.Join(words[:n], " "))
		}
		for _, more := range []string{"1", "0", "main", "00", "x", row} {
			wantBad(t, row+" "+more)
		}
		wantBad(t, row+" "+strings.Repeat("1 ", 20)+"1")
	}
}

// Two blanks have an empty word between them, so that there is a word too many.
func TestBlanksTooMany(t *testing.T) {
	for _, row := range rows() {
		for i := range row {
			if row[i] == ' ' {
				wantBad(t, row[:i]+" "+row[i:], row[:i]+"  "+row[i:])
			}
		}
		wantBad(t, row+" ", row+"  ", " "+row, "  "+row, " "+row+" ")
	}
	wantBad(t, "", " ", "  ", "   ")
}

// An empty word is a word: no number, but a HEX, and a name that is none.
func TestEmptyWords(t *testing.T) {
	wantBad(t,
		"new  ", "new  1", "new 1 ", "free ", "write   ", "write  0 00", "write 1  00", "read   ", "read  0 1", "read 1  1", "read 1 0 ",
		"set main ", "set  ", "cut ",
	)
	wantKept(t, some(), slices.Concat([]string{
		"set  1", "ErrSyntax",
		"unset ", "ErrSyntax",
		"get ", "ErrSyntax",
		"write 1 0 ", "ok",
		"write 1 5 ", "ok",
		"write 1 6 ", "ErrShape",
		"write 2 0 ", "ErrNone",
		"write 41 0 ", "ErrRange",
	}, wantSome())...)
}

// No other sign stands for a blank.
func TestOtherSignsBetween(t *testing.T) {
	for _, sign := range []string{"\t", "\r", "\v", "\f", "\x00", "\u00a0", "\u2003", "\u3000", ",", ";", "_", "\x80", "\xff", ""} {
		for _, row := range rows() {
			if !strings.Contains(row, " ") {
				continue
			}
			wantBad(t, strings.Replace(row, " ", sign, 1))
			if i := strings.LastIndexByte(row, ' '); i != strings.IndexByte(row, ' ') {
				wantBad(t, row[:i]+sign+row[i+1:])
			}
		}
	}
	wantBad(t, "new \t5 1", "new\t 5 1", "free 1\t", "set main \t1")
	wantTalk(t, "get \tmain", "ErrSyntax", "unset \tmain", "ErrSyntax", "set main\t 1", "ErrSyntax")
}

func TestOtherSignsAround(t *testing.T) {
	for _, sign := range []string{"\t", "\r", "\x00", "\u00a0", ".", "\xff", "\ufeff"} {
		for _, row := range rows() {
			wantBad(t, sign+row)
			if !lastIsName(row) {
				wantBad(t, row+sign)
			}
		}
	}
}

// A first word that no row has.
func TestUnknownRows(t *testing.T) {
	for _, row := range rows() {
		first, rest, hasMore := strings.Cut(row, " ")
		if hasMore {
			rest = " " + rest
		}
		for _, other := range []string{
			strings.ToUpper(first), strings.ToUpper(first[:1]) + first[1:], first[:len(first)-1], first[1:], first + "s", first + first, "x" + first, "-" + first, "",
		} {
			wantBad(t, other+rest)
		}
	}
	wantBad(t,
		"fly", "alloc 5 1", "delete 1", "open", "create", "begin", "step", "flush", "fail 3", "down", "dirty", "mark", "back 1", "refs 1", "live", "dead", "path 1",
		"gain", "loose", "can 1", "size 1", "tag 1", "0", "1", "-", "#", "ok", "bad", "quit", "help", "new\x00 1 1", "\u017ftat", "commit now",
	)
}
