package old_test

import (
	"bytes"
	"math/rand"
	"slices"
	"strings"
	"testing"

	"vaultkeel/api"
	"vaultkeel/check"
	"vaultkeel/old"
	"vaultkeel/plain"
)

// model tells what Up is to give, the bytes or an error: it reads by places, one object or root after the other.
func model(b []byte) ([]byte, api.Errno) {
	if !strings.HasPrefix(string(b), "OLD1") || len(b) < 5 || b[4] > 40 {
		return nil, api.ErrSyntax
	}
	var things []thing
	at, room := 5, 6112
	for range b[4] {
		o, e := modelObject(b[at:], things)
		if e != api.OK {
			return nil, e
		}
		if room -= len(o.body); room < 0 {
			return nil, api.ErrFull
		}
		things = append(things, o)
		at += 4 + len(o.body)
	}
	if at == len(b) || b[at] > 8 {
		return nil, api.ErrSyntax
	}
	var leads []lead
	end := at + 1 + 9*int(b[at])
	for at++; at < end; at += 9 {
		r, e := modelRoot(b[min(at, len(b)):], things, leads)
		if e != api.OK {
			return nil, e
		}
		leads = append(leads, r)
	}
	if end < len(b) {
		return nil, api.ErrSyntax
	}
	return now(things, leads), api.OK
}

// modelObject tells the object that b begins with, or what is wrong with it behind those ahead.
func modelObject(b []byte, ahead []thing) (thing, api.Errno) {
	switch n := len(b); {
	case n < 1:
		return thing{}, api.ErrSyntax
	case b[0] == 0 || b[0] >= 41:
		return thing{}, api.ErrRange
	case hasHandle(ahead, b[0]):
		return thing{}, api.ErrClash
	case n < 2:
		return thing{}, api.ErrSyntax
	case b[1] >= 16:
		return thing{}, api.ErrRange
	case n < 4:
		return thing{}, api.ErrSyntax
	}
	size := int(b[2]) + 256*int(b[3])
	if size == 0 || size >= 1001 {
		return thing{}, api.ErrRange
	}
	if len(b) < 4+size {
		return thing{}, api.ErrSyntax
	}
	return thing{int(b[0]), int(b[1]), b[4 : 4+size]}, api.OK
}

// modelRoot tells the root that b begins with, or what is wrong with it behind those ahead.
func modelRoot(b []byte, things []thing, ahead []lead) (lead, api.Errno) {
	if len(b) < 8 {
		return lead{}, api.ErrSyntax
	}
	name := strings.TrimRight(string(b[:8]), "\x00")
	switch {
	case name == "" || strings.Trim(name, "abcdefghijklmnopqrstuvwxyz") != "":
		return lead{}, api.ErrSyntax
	case slices.ContainsFunc(ahead, func(r lead) bool { return r.name == name }):
		return lead{}, api.ErrClash
	case len(b) < 9:
		return lead{}, api.ErrSyntax
	case b[8] == 0 || b[8] >= 41:
		return lead{}, api.ErrRange
	case !hasHandle(things, b[8]):
		return lead{}, api.ErrNone
	}
	return lead{name, int(b[8])}, api.OK
}

func hasHandle(things []thing, handle byte) bool {
	return slices.ContainsFunc(things, func(o thing) bool { return o.handle == int(handle) })
}

// spoilt gives bytes of old of which some are others, lack, or are more.
func spoilt(r *rand.Rand, b []byte) []byte {
	b = slices.Clone(b)
	for range r.Intn(3) {
		at := r.Intn(len(b))
		switch r.Intn(5) {
		case 0:
			b[at] = byte(r.Intn(256))
		case 1:
			b[at] = byte(r.Intn(42))
		case 2:
			b = b[:at+1]
		case 3:
			b = slices.Insert(b, at, byte(r.Intn(20)))
		case 4:
			b = append(b, byte(r.Intn(3)))
		}
	}
	return b
}

func TestDrawnFaults(t *testing.T) {
	r := rand.New(rand.NewSource(17))
	seen := map[api.Errno]int{}
	for range 40_000 {
		var things []thing
		var leads []lead
		for range r.Intn(5) {
			things = append(things, thing{1 + r.Intn(12), r.Intn(16), make([]byte, 1+r.Intn(6))})
		}
		for range r.Intn(4) {
			leads = append(leads, lead{rootNames[r.Intn(8)], 1 + r.Intn(12)})
		}
		if r.Intn(2) == 0 {
			things, leads = drawnThings(r)
		}
		b := spoilt(r, once(things, leads))
		want, told := model(b)
		got, err := old.Up(b)
		seen[told]++
		if plain.Told(err) != told || !bytes.Equal(got, want) {
			t.Fatalf("Up of % x: got %d bytes, %v; want %d, %v", b, len(got), err, len(want), told)
		}
	}
	for _, e := range []api.Errno{api.OK, api.ErrRange, api.ErrSyntax, api.ErrNone, api.ErrClash} {
		if seen[e] < 100 {
			t.Errorf("%v was drawn %d times alone", e, seen[e])
		}
	}
}

// No bytes lead to a panic, or to an answer that is not right.
func FuzzUpAndDown(f *testing.F) {
	f.Add(once(nil, nil))
	f.Add(once(some()))
	f.Add(once(many()))
	f.Add(scattered(400))
	f.Fuzz(func(t *testing.T, b []byte) {
		want, told := model(b)
		got, err := old.Up(b)
		if plain.Told(err) != told || !bytes.Equal(got, want) {
			t.Fatalf("Up: got %d bytes, %v; want %d, %v", len(got), err, len(want), told)
		}
		if l, err := check.Check(b); err == nil && len(l) == 0 {
			wantBack(t, b)
		} else if out, err := old.Down(b); err == nil || len(out) > 0 {
			t.Fatal("Down of what is wrong: no error")
		}
	})
}
