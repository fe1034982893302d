package check_test

import (
	"bytes"
	"slices"
	"testing"

	"vaultkeel/api"
	"vaultkeel/check"
	"vaultkeel/plain"
)

// lengths that images have.
var lengths = []int{288, 289, 320, 1287, 1288, 6399, 6400}

// object gives a copy of b in which the five bytes of a handle are these.
func object(b []byte, handle, first, at, length int) []byte {
	return replaced(b, 5*(handle-1), byte(first), byte(at%256), byte(at/256), byte(length%256), byte(length/256))
}

// root gives a copy of b in which a root is at a place.
func root(b []byte, i int, name string, handle int) []byte {
	row := make([]byte, 11)
	copy(row, name)
	row[10] = byte(handle)
	return replaced(b, 200+11*i, row...)
}

// noHandle gives a copy of b in which a handle is none.
func noHandle(b []byte, handle int) []byte { return object(b, handle, 0, 0, 0) }

// noRoot gives a copy of b in which there is no root at a place.
func noRoot(b []byte, i int) []byte { return root(b, i, "", 0) }

// replaced gives a copy of b with other bytes from at on.
func replaced(b []byte, at int, row ...byte) []byte {
	return slices.Concat(b[:at], row, b[at+len(row):])
}

// laid gives an image of n bytes with nothing in it, but for bytes that nobody has.
func laid(n int) []byte {
	b := make([]byte, n)
	for i := 288; i < n; i++ {
		b[i] = byte(1 + i*37%255)
	}
	return b
}

// some gives an image of 400 bytes with three objects, a free byte ahead of each, and two roots.
func some() []byte {
	b := object(laid(400), 2, 1, 330, 20)
	b = object(b, 7, 16, 289, 40)
	b = object(b, 40, 5, 351, 49)
	b = root(b, 1, "main", 40)
	return root(b, 6, "b", 2)
}

// full gives an image of 6400 bytes that is as full as may be: forty objects that have all bytes, the last handle first, and eight roots.
func full() []byte {
	b := laid(6400)
	at := 288
	for handle := 40; handle >= 1; handle-- {
		length := 3 // 6 of 1000 bytes, 33 of 3, and one of 13: 6112
		if handle <= 6 {
			length = 1000
		}
		if handle == 20 {
			length = 13
		}
		b = object(b, handle, 1+handle%16, at, length)
		at += length
	}
	for i, name := range []string{"h", "gg", "fff", "eeee", "ddddd", "cccccc", "bbbbbbb", "eightlet"} {
		b = root(b, i, name, 40-5*i)
	}
	return b
}

// around gives b as a part of a greater list, so that what is read or written about it is told.
func around(b []byte) (part, whole []byte) {
	odd := bytes.Repeat([]byte{201}, 600)
	whole = slices.Concat(odd, b, odd)
	return whole[len(odd) : len(odd)+len(b)], whole
}

func fill(b []byte, c byte) {
	for i := range b {
		b[i] = c
	}
}

// unchanged calls f on bytes, and asks that it writes neither into them nor about them.
func unchanged(t *testing.T, what string, b []byte, f func(b []byte)) {
	t.Helper()
	part, whole := around(b)
	before := slices.Clone(whole)
	f(part)
	if !bytes.Equal(whole, before) {
		t.Errorf("%s wrote into what it was given", what)
	}
}

// wantFaults asks Check for faults, in this order, and that they are fresh.
func wantFaults(t *testing.T, b []byte, want ...api.Fault) {
	t.Helper()
	unchanged(t, "Check", b, func(b []byte) {
		got, err := check.Check(b)
		if err != nil || !slices.Equal(got, want) {
			t.Errorf("Check: got %v, %v; want %v", got, err, want)
		}
		again, _ := check.Check(b)
		clear(got[:cap(got)])
		if !slices.Equal(again, want) {
			t.Errorf("Check of the same bytes: got %v once more; want %v", again, want)
		}
	})
}

// wantMended asks for what Mend makes of b: fresh memory, of which Check says nothing, and which stays if it is mended once more.
func wantMended(t *testing.T, b, want []byte) {
	t.Helper()
	part, whole := around(b)
	before := slices.Clone(whole)
	out, err := check.Mend(part)
	if err != nil || !bytes.Equal(out, want) {
		t.Errorf("Mend: got %d bytes, %v, with faults %v; want %d", len(out), err, faultsOf(out), len(want))
		return
	}
	wantFaults(t, out)
	if again, err := check.Mend(out); err != nil || !bytes.Equal(again, want) {
		t.Errorf("Mend of what was mended: got %d bytes, %v; want it as it was", len(again), err)
	}
	other, _ := check.Mend(part)
	if !bytes.Equal(whole, before) {
		t.Error("Mend wrote into what it was given")
	}
	fill(out[:cap(out)], 99)
	if !bytes.Equal(whole, before) {
		t.Error("what Mend gave is a part of what it was given")
	}
	fill(whole, 98)
	if !bytes.Equal(other, want) {
		t.Error("what Mend gave changed with what it was given, or with what it gave ahead")
	}
}

// wantRight asks that an image has no fault, and that each call says so.
func wantRight(t *testing.T, b []byte) {
	t.Helper()
	wantFaults(t, b)
	wantMended(t, b, b)
	wantSame(t, b, b, true, api.OK)
}

// wantOnly asks that an image has these faults, and none when just these handles and roots are none; such images are the same as no other one.
func wantOnly(t *testing.T, b []byte, faults ...api.Fault) {
	t.Helper()
	wantFaults(t, b, faults...)
	mended := b
	for _, f := range faults {
		if f.What == 4 || f.What == 5 {
			mended = noRoot(mended, f.Which)
		} else {
			mended = noHandle(mended, f.Which)
		}
	}
	wantMended(t, b, mended)
	wantSame(t, b, b, false, api.ErrState)
	wantSame(t, b, mended, false, api.ErrState)
}

// wantSame asks Same of two images, whichever comes first.
func wantSame(t *testing.T, a, b []byte, want bool, told api.Errno) {
	t.Helper()
	unchanged(t, "Same", a, func(a []byte) {
		unchanged(t, "Same", b, func(b []byte) {
			if got, err := check.Same(a, b); got != want || plain.Told(err) != told {
				t.Errorf("Same: got %v, %v; want %v, %v", got, err, want, told)
			}
			if got, err := check.Same(b, a); got != want || plain.Told(err) != told {
				t.Errorf("Same the other way round: got %v, %v; want %v, %v", got, err, want, told)
			}
		})
	})
}

func faultsOf(b []byte) []api.Fault {
	l, _ := check.Check(b)
	return l
}

func stray(handle int) api.Fault { return api.Fault{What: 1, Which: handle} }
func over(handle int) api.Fault  { return api.Fault{What: 2, Which: handle} }
func none(handle int) api.Fault  { return api.Fault{What: 3, Which: handle} }
func bad(i int) api.Fault        { return api.Fault{What: 4, Which: i} }
func twice(i int) api.Fault      { return api.Fault{What: 5, Which: i} }
