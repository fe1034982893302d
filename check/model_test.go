package check_test

import (
	"bytes"
	"fmt"
	"math/rand"
	"slices"
	"sort"
	"strings"
	"testing"

	"vaultkeel/api"
	"vaultkeel/check"
)

// model tells faults by who has which byte, and of what is right a text: objects by handle, then roots by name.
func model(b []byte) (faults []api.Fault, text string) {
	taken := make([]bool, len(b))
	isRight := map[int]bool{}
	var lines []string
	for handle := 1; handle <= 40; handle++ {
		row := b[5*handle-5 : 5*handle]
		at, length := int(row[1])+256*int(row[2]), int(row[3])+256*int(row[4])
		switch {
		case row[0] == 0 && at+length > 0:
			faults = append(faults, none(handle))
		case row[0] == 0:
		case row[0] > 16 || at < 288 || length == 0 || length > 1000 || at+length > len(b):
			faults = append(faults, stray(handle))
		case slices.Contains(taken[at:at+length], true):
			faults = append(faults, over(handle))
		default:
			isRight[handle] = true
			lines = append(lines, fmt.Sprintf("%02d %d %q", handle, row[0], b[at:at+length]))
		}
		if row[0] > 0 && !slices.Contains(faults, stray(handle)) {
			for i := range length {
				taken[at+i] = true
			}
		}
	}
	for i := range 8 {
		row := string(b[200+11*i : 211+11*i])
		name := strings.TrimRight(row[:8], "\x00")
		line := fmt.Sprintf("root %s %d", name, row[10])
		isName := name != "" && strings.Trim(name, "abcdefghijklmnopqrstuvwxyz") == ""
		switch {
		case strings.Trim(row, "\x00") == "":
		case !isName || row[8:10] != "\x00\x00" || !isRight[int(row[10])]:
			faults = append(faults, bad(i))
		case slices.ContainsFunc(lines, func(ahead string) bool { return strings.HasPrefix(ahead, "root "+name+" ") }):
			faults = append(faults, twice(i))
		default:
			lines = append(lines, line)
		}
	}
	sort.Strings(lines)
	return faults, strings.Join(lines, "\n")
}

// drawn gives an image, right or not, of few bytes that many would have.
func drawn(r *rand.Rand) []byte {
	n := []int{300, 310, 400, 1300}[r.Intn(4)]
	b := laid(n)
	for handle := 1; handle <= 40; handle++ {
		if r.Intn(4) == 0 {
			b = object(b, handle, 1+r.Intn(16), 288+r.Intn(n-288), 1+r.Intn(4))
		}
		if r.Intn(40) == 0 {
			b = object(b, handle, r.Intn(19), 286+r.Intn(n-280), []int{0, 1, 2, 1000, 1001}[r.Intn(5)])
		}
	}
	for i := range 8 {
		if r.Intn(2) == 0 {
			b = root(b, i, []string{"a", "b", "c", "ab", "eightlet", "main"}[r.Intn(6)], 1+r.Intn(40))
		}
		if r.Intn(20) == 0 {
			b = replaced(b, 200+11*i+r.Intn(11), byte(r.Intn(256)))
		}
	}
	return b
}

// moved gives an image as Mend leaves it, with its objects one behind the other, the roots the other way round, and now and then a byte changed.
func moved(r *rand.Rand, b []byte) []byte {
	out := replaced(laid(1400), 0, b[:200]...)
	at := 288
	for _, handle := range r.Perm(40) {
		row := b[5*handle:]
		from, length := int(row[1])+256*int(row[2]), int(row[3])+256*int(row[4])
		if row[0] == 0 || at+length > len(out) {
			out = noHandle(out, handle+1)
			continue
		}
		copy(out[at:], b[from:from+length])
		out = object(out, handle+1, int(row[0]), at, length)
		at += length
	}
	for i := range 8 {
		copy(out[200+11*i:], b[277-11*i:288-11*i])
	}
	if r.Intn(3) == 0 {
		out[r.Intn(at)] ^= byte(1 << r.Intn(8))
	}
	return out
}

func TestDrawnImages(t *testing.T) {
	r := rand.New(rand.NewSource(8))
	for range 4000 {
		b := drawn(r)
		faults, _ := model(b)
		got, err := check.Check(b)
		if err != nil || !slices.Equal(got, faults) {
			t.Fatalf("Check of % x: got %v, %v; want %v", b[:288], got, err, faults)
		}
		want := b
		for _, f := range faults {
			if f.What >= 4 {
				want = noRoot(want, f.Which)
			} else {
				want = noHandle(want, f.Which)
			}
		}
		out, err := check.Mend(b)
		if err != nil || !bytes.Equal(out, want) || len(faultsOf(out)) > 0 {
			t.Fatalf("Mend of % x: got % x, %v; want % x", b[:288], out[:288], err, want[:288])
		}
		wantSameAsModel(t, out, moved(r, out))
	}
}

// wantSameAsModel asks Same of an image that is right, and of another one.
func wantSameAsModel(t *testing.T, a, b []byte) {
	t.Helper()
	faults, other := model(b)
	_, text := model(a)
	got, err := check.Same(a, b)
	if len(faults) > 0 {
		if got || err != api.ErrState {
			t.Fatalf("Same of an image with %v: got %v, %v", faults, got, err)
		}
		return
	}
	if got != (text == other) || err != nil {
		t.Fatalf("Same: got %v, %v; of\n%s\nand\n%s", got, err, text, other)
	}
}
