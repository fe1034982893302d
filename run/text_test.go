package run_test

import (
	"strings"
	"sync"
	"testing"

	"vaultkeel/run"
)

func TestTextOfNothing(t *testing.T) { wantRun(t, "", "") }

// Bytes are counted, not signs or lines.
func TestLongestText(t *testing.T) {
	for _, c := range [][2]string{
		{"\n", "bad\n"},
		{"a\n", "bad\n"},
		{"stat\n", "0 0 736 736 1\n"},
		{"\x00\n", "bad\n"},
		{"pack\ncommit\nab\n", "0\nok\nbad\n"},
	} {
		n := 3000 / len(c[0]) // with nothing left over
		wantRun(t, strings.Repeat(c[0], n), strings.Repeat(c[1], n))
		wantRun(t, strings.Repeat(c[0], n+1), "too long\n")
		wantRun(t, strings.Repeat(c[0], n)+"\n", "too long\n")
		wantRun(t, strings.Repeat(c[0], n)+"a", "too long\n")
	}
	wantRun(t, strings.Repeat("\u00e9", 1500), "bad\n")
	wantRun(t, strings.Repeat("\u00e9", 1501), "too long\n")
	wantRun(t, strings.Repeat("\u00e9", 1000), "bad\n")
	wantRun(t, strings.Repeat("stat\n", 599)+"stat", strings.Repeat("0 0 736 736 1\n", 600))
	wantRun(t, strings.Repeat("stat\n", 599)+"stamp", strings.Repeat("0 0 736 736 1\n", 599)+"2\n")
	wantRun(t, strings.Repeat("stat\n", 599)+"stamp\n", "too long\n")
}

// One line may have all the bytes.
func TestLongestLine(t *testing.T) {
	wantRun(t, "get "+strings.Repeat("a", 2996), "ErrSyntax\n")
	wantRun(t, "get "+strings.Repeat("a", 2995)+"\n", "ErrSyntax\n")
	wantRun(t, "get "+strings.Repeat("a", 2997), "too long\n")
	wantRun(t, "get "+strings.Repeat("a", 2996)+"\n", "too long\n")
	wantRun(t, "write 1 0 "+strings.Repeat("ab", 1495), "ErrNone\n")
	wantRun(t, "write 1 0 "+strings.Repeat("ab", 1494)+"a\n", "bad\n")
	wantRun(t, "new 736 0\nwrite 1 0 "+strings.Repeat("ab", 737)+"\nread 1 0 736\n", "1\nErrShape\n"+strings.Repeat("00", 736)+"\n")
	wantRun(t, "new 736 0\nwrite 1 0 "+strings.Repeat("ab", 736)+"\nread 1 0 736\n", "1\nok\n"+strings.Repeat("ab", 736)+"\n")
}

// Of what is too long nothing else is told.
func TestFarTooLong(t *testing.T) {
	for _, n := range []int{3001, 3002, 4000, 6000, 65536, 1 << 20} {
		wantRun(t, strings.Repeat("\n", n), "too long\n")
		wantRun(t, strings.Repeat("a", n), "too long\n")
		wantRun(t, strings.Repeat("pack\n", n), "too long\n")
	}
}

// A last piece that is empty is none, and only the last.
func TestLastLine(t *testing.T) {
	wantRun(t, "stamp", "2\n")
	wantRun(t, "stamp\n", "2\n")
	wantRun(t, "stamp\n\n", "2\nbad\n")
	wantRun(t, "stamp\n\n\n", "2\nbad\nbad\n")
	wantRun(t, "stamp\npack", "2\n0\n")
	wantRun(t, "stamp\npack\n", "2\n0\n")
	wantRun(t, "stamp\n ", "2\nbad\n")
	wantRun(t, "stamp\n \n", "2\nbad\n")
	wantRun(t, "get ", "ErrSyntax\n")
	wantRun(t, "get \n", "ErrSyntax\n")
	wantRun(t, "x", "bad\n")
	wantRun(t, "x\n", "bad\n")
}

func TestEmptyLines(t *testing.T) {
	wantRun(t, "\n", "bad\n")
	wantRun(t, "\n\n", "bad\nbad\n")
	wantRun(t, "\nstamp", "bad\n2\n")
	wantRun(t, "\nstamp\n", "bad\n2\n")
	wantRun(t, "\n\nstamp\n\n\npack\n\n", "bad\nbad\n2\nbad\nbad\n0\nbad\n")
}

// Lines are cut at byte 10 alone.
func TestOtherEnds(t *testing.T) {
	for _, end := range []string{"\r", "\v", "\f", "\x00", "\u0085", "\u2028", "\u2029", ";", "\\n"} {
		wantRun(t, "stamp"+end+"stamp", "bad\n")
		wantRun(t, "stamp"+end+"\nstamp", "bad\n2\n")
		wantRun(t, "stamp\n"+end+"stamp", "2\nbad\n")
		wantRun(t, "get a"+end, "ErrSyntax\n")
		wantRun(t, "get a"+end+"\nstamp", "ErrSyntax\n2\n")
	}
}

// Each line has just one answer, whatever it is.
func TestOneLineEach(t *testing.T) {
	text := "new 5 1\nread 1 0 0\nread 1 0 5\n\nfly\nget  \nget \nset a 1\nstat\ncrash\nfree 1\ncommit\n"
	if got := strings.Count(run.Run(text), "\n"); got != 12 {
		t.Errorf("%d lines for 12", got)
	}
	wantRun(t, text, "1\n\n0000000000\nbad\nbad\nbad\nErrSyntax\nnew\n1 5 731 731 1\nok\nErrNone\nok\n")
}

// Nothing is left of a text, however it ends.
func TestTextsHaveNothingOfEachOther(t *testing.T) {
	first := "stamp\nstat\nget a\nnew 3 1\nset a 1\ncommit\nstamp\n"
	want := "2\n0 0 736 736 1\nErrNone\n1\nnew\nok\n3\n"
	for _, between := range []string{
		"", first, "cut 0", "cut 2\nnew 1 1\ncommit", "new 736 0\nset a 1\ncommit", "new 5 5", "cut 1\nnew 1 1\ncommit\ncrash\n", strings.Repeat("\n", 3001),
	} {
		wantRun(t, first, want)
		run.Run(between)
	}
	wantRun(t, first, want)
}

func TestTextsAtOnce(t *testing.T) {
	text := strings.Repeat("new 9 1\nset a 1\nwrite 1 3 0102\ncommit\ncut 3\nfree 2\ncommit\ncrash\nstat\nstamp\n", 20)
	want := run.Run(text)
	got := make([]string, 8)
	var all sync.WaitGroup
	for i := range got {
		all.Go(func() { got[i] = run.Run(text) })
	}
	all.Wait()
	for i := range got {
		if got[i] != want {
			t.Errorf("call %d at once with others: got %q, want %q", i, got[i], want)
		}
	}
}
