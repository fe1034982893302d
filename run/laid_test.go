package run_test

import (
	"slices"
	"strconv"
	"strings"
	"testing"

	"vaultkeel/run"
)

// wantRun asks twice, so that nothing is left of the call ahead.
func wantRun(t *testing.T, text, want string) {
	t.Helper()
	for k := range 2 {
		if got := run.Run(text); got != want {
			t.Fatalf("%.400q, at call %d:\ngot  %.400q\nwant %.400q", text, k+1, got, want)
		}
	}
}

// sides takes pairs apart: lines, and what each is answered.
func sides(pairs []string) (lines, answers []string) {
	for i := 0; i+1 < len(pairs); i += 2 {
		lines = append(lines, pairs[i])
		answers = append(answers, pairs[i+1])
	}
	return lines, answers
}

// joined gives a text of lines, each with a byte 10 behind it.
func joined(lines []string) string {
	var out strings.Builder
	for _, line := range lines {
		out.WriteString(line + "\n")
	}
	return out.String()
}

// wantTalk asks for what lines are answered, each line ahead of what it is answered; a byte 10 may be behind the last one.
func wantTalk(t *testing.T, pairs ...string) {
	t.Helper()
	if len(pairs)%2 != 0 {
		t.Fatalf("%d pieces are no pairs", len(pairs))
	}
	lines, answers := sides(pairs)
	text := joined(lines)
	if len(text) > 3000 {
		t.Fatalf("the text has %d bytes", len(text))
	}
	for i, got := range strings.Split(run.Run(text), "\n") {
		if i < len(answers) && got != answers[i] {
			t.Fatalf("behind %.400q: %.200q: got %.200q, want %.200q", lines[:i], lines[i], got, answers[i])
		}
	}
	wantRun(t, text, joined(answers))
	if n := len(lines); n > 0 && lines[n-1] != "" {
		wantRun(t, strings.TrimSuffix(text, "\n"), joined(answers))
	}
}

// wantKept asks for what lines are answered behind others: with these not committed, committed, and committed and brought back by a crash.
func wantKept(t *testing.T, ahead []string, pairs ...string) {
	t.Helper()
	wantTalk(t, slices.Concat(ahead, pairs)...)
	wantTalk(t, slices.Concat(ahead, []string{"commit", "ok"}, pairs)...)
	wantTalk(t, slices.Concat(ahead, []string{"commit", "ok", "crash", "ok"}, pairs)...)
}

// same gives pairs of lines that are all answered alike.
func same(answer string, lines ...string) (pairs []string) {
	for _, line := range lines {
		pairs = append(pairs, line, answer)
	}
	return pairs
}

// times gives pairs n times, one behind the other.
func times(n int, pairs ...string) []string { return slices.Repeat(pairs, n) }

// news gives pairs by which so many objects are made, in a store that has none of their handles.
func news(n, size, tag int) (pairs []string) {
	for i := range n {
		pairs = append(pairs, "new "+strconv.Itoa(size)+" "+strconv.Itoa(tag), strconv.Itoa(i+1))
	}
	return pairs
}

// some gives pairs by which there are the objects 1 (tag 2, bytes 3 0 7 8 9) and 3 (tag 0, ten bytes), with 20 free bytes between them; main leads to 1.
func some() []string {
	return []string{
		"new 5 2", "1",
		"new 20 15", "2",
		"new 10 0", "3",
		"write 1 0 0300070809", "ok",
		"write 3 0 102132435465768798a9", "ok",
		"set main 1", "new",
		"free 2", "ok",
	}
}

// wantSome is what tells that there is what some made, and nothing else.
func wantSome() []string {
	return []string{
		"read 1 0 5", "0300070809",
		"read 2 0 0", "ErrNone",
		"read 3 0 10", "102132435465768798a9",
		"read 4 0 0", "ErrNone",
		"get main", "1",
		"stat", "2 15 721 701 2",
	}
}

// wantNothing is what tells that there is nothing.
func wantNothing() []string {
	return []string{"stat", "0 0 736 736 1", "get main", "ErrNone"}
}

// rows gives a line of each row of the table, with words that can be read.
func rows() []string {
	return []string{
		"new 5 1", "free 1", "write 1 0 00ff", "read 1 0 4", "set main 1", "unset main", "get main",
		"commit", "abort", "stamp", "cut 3", "crash", "pack", "sweep", "stat",
	}
}
