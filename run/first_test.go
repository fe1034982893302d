package run_test

import (
	"math/rand"
	"slices"
	"strconv"
	"strings"
	"testing"

	"vaultkeel/run"
)

// wantFirst asks that the answers to the first lines are the beginning of the answers to all, with one line each: for every number of lines, and with the last of these cut anywhere.
func wantFirst(t *testing.T, text string) {
	t.Helper()
	if len(text) > 3000 {
		t.Fatalf("the text has %d bytes", len(text))
	}
	all := strings.SplitAfter(run.Run(text), "\n")
	lines := strings.SplitAfter(text, "\n")
	for n := range len(lines) + 1 {
		want := strings.Join(all[:n], "")
		if got := run.Run(strings.Join(lines[:n], "")); got != want {
			t.Fatalf("the first %d lines of %q:\ngot  %q\nwant %q", n, text, got, want)
		}
		if n == len(lines) || len(lines[n]) < 2 {
			continue
		}
		if got := run.Run(strings.Join(lines[:n], "") + lines[n][:1+n%(len(lines[n])-1)]); !strings.HasPrefix(got, want) || strings.Count(got, "\n") != n+1 {
			t.Fatalf("the first %d lines of %q, and a piece of the next:\ngot  %q\nwant %q ahead of one line", n, text, got, want)
		}
	}
}

// longTexts have all rows, many of their errors, and the power that goes again and again.
func longTexts() []string {
	var cut, set, pack strings.Builder
	for i := range 12 {
		n := strconv.Itoa(i)
		cut.WriteString("new 9 1\nwrite 1 " + n + " 0" + strconv.Itoa(i%10) + "ff\nset " + string(rune('a'+i)) + " 1\ncut " + n + "\ncommit\nstamp\nstat\nread 1 0 9\ncommit\ncrash\nstamp\nget a\n\nstat\n")
		set.WriteString("new " + n + "7 " + n + "\nset " + string(rune('a'+i)) + " " + n + "\nget a\nunset b\nfree " + n + "\nfly\nwrite " + n + " 0 0102030405\ncommit\nabort\nsweep\nstat\n")
		pack.WriteString("new 3" + n + " 2\nnew 2" + n + " 0\nfree 1\npack\nwrite 2 0 0" + n[:1] + "\nset a 2\nstat\nread 2 0 3\nsweep\ncommit\nfree 2\nabort\ncrash\n\nstat \n")
	}
	return []string{cut.String(), set.String(), pack.String(), strings.Repeat("new 1 1\ncommit\n", 60) + "crash\nstat\nstamp", strings.Repeat("\n", 300)}
}

func TestFirstLines(t *testing.T) {
	for _, text := range longTexts() {
		wantFirst(t, text)
		wantFirst(t, strings.TrimSuffix(text, "\n"))
		wantFirst(t, text+"\n")
	}
}

func TestFirstLinesOfDrawn(t *testing.T) {
	r := rand.New(rand.NewSource(21))
	for range 30 {
		text, _ := drawnText(r, nil)
		wantFirst(t, text)
	}
}

// What is too long has no beginning of other answers; its first lines have their own.
func TestFirstLinesOfTooLong(t *testing.T) {
	lines := slices.Repeat([]string{"new 1 1\n", "stamp\n"}, 250)
	text := strings.Join(lines, "")
	wantRun(t, text, "too long\n")
	wantFirst(t, text[:2996])
}
