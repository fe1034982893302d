package old_test

import (
	"bytes"
	"slices"
	"testing"

	"vaultkeel/api"
	"vaultkeel/check"
	"vaultkeel/old"
	"vaultkeel/plain"
)

// thing is an object that is to be laid.
type thing struct {
	handle, tag int
	body        []byte
}

// lead is a root that is to be laid.
type lead struct {
	name   string
	handle int
}

// rootNames are as many as there may be roots, of one letter up to eight.
var rootNames = []string{"h", "gg", "fff", "eeee", "ddddd", "cccccc", "bbbbbbb", "eightlet"}

// stuff gives n bytes, none of them 0, and others for each seed.
func stuff(n, seed int) []byte {
	b := make([]byte, n)
	for i := range b {
		b[i] = byte(1 + (i*37+i/255+seed*11)%255)
	}
	return b
}

// low gives a number as two bytes, the low one first.
func low(n int) []byte { return []byte{byte(n % 256), byte(n / 256)} }

// letters gives a name as eight bytes.
func letters(name string) []byte {
	b := make([]byte, 8)
	copy(b, name)
	return b
}

// once gives an image of old, by hand.
func once(things []thing, leads []lead) []byte {
	b := []byte{79, 76, 68, 49, byte(len(things))}
	for _, o := range things {
		b = slices.Concat(b, []byte{byte(o.handle), byte(o.tag)}, low(len(o.body)), o.body)
	}
	b = append(b, byte(len(leads)))
	for _, r := range leads {
		b = slices.Concat(b, letters(r.name), []byte{byte(r.handle)})
	}
	return b
}

// now gives the image of 6400 bytes that Up is to make of the same things, by hand: each behind the one ahead, all else 0.
func now(things []thing, leads []lead) []byte {
	b := make([]byte, 6400)
	at := 288
	for _, o := range things {
		put(b, o, at)
		at += len(o.body)
	}
	for i, r := range leads {
		putRoot(b, i, r)
	}
	return b
}

// put an object into an image, at a place.
func put(b []byte, o thing, at int) {
	row := slices.Concat([]byte{byte(o.tag + 1)}, low(at), low(len(o.body)))
	copy(b[5*(o.handle-1):], row)
	copy(b[at:], o.body)
}

// putRoot puts a root into an image, at a place of roots.
func putRoot(b []byte, i int, r lead) {
	copy(b[200+11*i:], slices.Concat(letters(r.name), []byte{0, 0, byte(r.handle)}))
}

// replaced gives a copy of b with other bytes from at on.
func replaced(b []byte, at int, row ...byte) []byte {
	return slices.Concat(b[:at], row, b[at+len(row):])
}

// some gives three objects whose handles do not rise, and two roots.
func some() ([]thing, []lead) {
	return []thing{{7, 0, stuff(40, 1)}, {2, 15, stuff(1, 2)}, {40, 3, stuff(9, 3)}},
		[]lead{{"main", 40}, {"b", 2}}
}

// many gives forty objects that have all the room there is, the last handle first, and eight roots.
func many() (things []thing, leads []lead) {
	for handle := 40; handle >= 1; handle-- {
		size := 3 // six of 1000 bytes, 33 of 3, and one of 13: 6112
		if handle <= 6 {
			size = 1000
		}
		if handle == 20 {
			size = 13
		}
		things = append(things, thing{handle, handle % 16, stuff(size, handle)})
	}
	for i, name := range rootNames {
		leads = append(leads, lead{name, 40 - 5*i})
	}
	return things, leads
}

// rising gives things by handle.
func rising(things []thing) []thing {
	return slices.SortedFunc(slices.Values(things), func(a, b thing) int { return a.handle - b.handle })
}

// around gives b as a part of a greater list, so that what is read or written about it is told.
func around(b []byte) (part, whole []byte) {
	odd := bytes.Repeat([]byte{201}, 600)
	whole = slices.Concat(odd, b, odd)
	return whole[len(odd) : len(odd)+len(b)], whole
}

func fill(b []byte, c byte) {
	for i := range b {
		b[i] = c
	}
}

// wantFresh asks a call for bytes: that it writes not into what it is given, and that what it gives is memory of its own each time.
func wantFresh(t *testing.T, call string, f func([]byte) ([]byte, error), b, want []byte) {
	t.Helper()
	part, whole := around(b)
	before := slices.Clone(whole)
	out, err := f(part)
	if err != nil || !bytes.Equal(out, want) {
		t.Errorf("%s of % x: got %v, %d bytes; want %d, first other one at %d", call, head(b), err, len(out), len(want), firstOther(out, want))
		return
	}
	again, _ := f(part)
	if !bytes.Equal(whole, before) {
		t.Errorf("%s wrote into what it was given", call)
	}
	fill(out[:cap(out)], 99)
	if !bytes.Equal(whole, before) {
		t.Errorf("what %s gave is a part of what it was given", call)
	}
	fill(whole, 98)
	if !bytes.Equal(again, want) {
		t.Errorf("what %s gave changed with what it was given, or with what it gave ahead", call)
	}
}

// wantError asks a call for an error, with nothing besides, and that it writes not into what it is given.
func wantError(t *testing.T, call string, f func([]byte) ([]byte, error), b []byte, want api.Errno) {
	t.Helper()
	part, whole := around(b)
	before := slices.Clone(whole)
	out, err := f(part)
	if plain.Told(err) != want || len(out) != 0 {
		t.Errorf("%s of % x (%d bytes): got %d bytes, %v; want %v", call, head(b), len(b), len(out), err, want)
	}
	if !bytes.Equal(whole, before) {
		t.Errorf("%s wrote into what it was given", call)
	}
}

// wantUp asks for what Up makes of b: an image of now, of which Check says nothing.
func wantUp(t *testing.T, b, want []byte) {
	t.Helper()
	wantFresh(t, "Up", old.Up, b, want)
	out, _ := old.Up(b)
	if l, err := check.Check(out); err != nil || len(l) > 0 {
		t.Errorf("Check of what Up gave: got %v, %v", l, err)
	}
	if len(out) != 6400 || old.Version(out) != 2 || old.Version(b) != 1 {
		t.Errorf("Up gave %d bytes of version %d, of version %d", len(out), old.Version(out), old.Version(b))
	}
}

// wantNoUp asks Up for an error.
func wantNoUp(t *testing.T, b []byte, want api.Errno) {
	t.Helper()
	wantError(t, "Up", old.Up, b, want)
}

// wantDown asks for what Down makes of b.
func wantDown(t *testing.T, b, want []byte) {
	t.Helper()
	wantFresh(t, "Down", old.Down, b, want)
}

// wantNoDown asks Down for an error.
func wantNoDown(t *testing.T, b []byte, want api.Errno) {
	t.Helper()
	wantError(t, "Down", old.Down, b, want)
}

// head gives so many bytes as may be told.
func head(b []byte) []byte { return b[:min(len(b), 64)] }

// firstOther tells from where on two lists are not the same.
func firstOther(a, b []byte) int {
	for i := range min(len(a), len(b)) {
		if a[i] != b[i] {
			return i
		}
	}
	return min(len(a), len(b))
}
