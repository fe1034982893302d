package run_test

import (
	"os"
	"strings"
	"testing"
)

// example reads the lines of README.md that stand behind Run, with their answers: what is ahead of the first sign that ends one.
func example(t *testing.T) (pairs []string) {
	t.Helper()
	b, err := os.ReadFile("../README.md")
	if err != nil {
		t.Fatal(err)
	}
	_, behind, isThere := strings.Cut(string(b), "run.Run(text) // line by line:\n\n")
	if !isThere {
		t.Fatal("README.md has no example of Run")
	}
	rows, _, _ := strings.Cut(behind, "\n\n")
	for _, row := range strings.Split(rows, "\n") {
		line, answer, isRow := strings.Cut(strings.TrimPrefix(row, "    "), "//")
		if !isRow {
			t.Fatalf("%q is no line with an answer", row)
		}
		if i := strings.IndexAny(answer, ":;,"); i >= 0 {
			answer = answer[:i]
		}
		pairs = append(pairs, strings.TrimRight(line, " "), strings.TrimSpace(answer))
	}
	return pairs
}

// The example of README.md is answered as it says.
func TestExample(t *testing.T) {
	pairs := example(t)
	if len(pairs) < 2*20 {
		t.Fatalf("%d lines are too few", len(pairs)/2)
	}
	wantTalk(t, pairs...)
}
