package old_test

import (
	"bytes"
	"testing"

	"vaultkeel/api"
	"vaultkeel/old"
	"vaultkeel/plain"
)

func TestDownOfNothing(t *testing.T) {
	for _, n := range []int{288, 289, 400, 6399, 6400} {
		wantDown(t, make([]byte, n), []byte{79, 76, 68, 49, 0, 0})
		free := make([]byte, n) // bytes that nobody has are not told
		copy(free[288:], stuff(n-288, 4))
		wantDown(t, free, []byte{79, 76, 68, 49, 0, 0})
	}
}

// All bytes of one, written out.
func TestDownByBytes(t *testing.T) {
	b := make([]byte, 300)
	copy(b, []byte{1, 34, 1, 1, 0})
	copy(b[10:], []byte{16, 37, 1, 2, 0})
	copy(b[211:], []byte{109, 97, 105, 110, 0, 0, 0, 0, 0, 0, 3})
	copy(b[288:], []byte{1, 2, 3, 4, 5, 6, 7, 8, 9, 10, 11, 12})
	wantDown(t, b, []byte{79, 76, 68, 49, 2, 1, 0, 1, 0, 3, 3, 15, 2, 0, 6, 7, 1, 109, 97, 105, 110, 0, 0, 0, 0, 3})
}

// scattered gives an image of n bytes with the objects 7, 2 and 40, in this order and with free bytes between, and bytes that nobody has.
func scattered(n int) []byte {
	b := make([]byte, n)
	copy(b[288:], stuff(n-288, 4))
	things, _ := some()
	put(b, things[0], 289)
	put(b, things[1], 330)
	put(b, things[2], n-9)
	return b
}

// Objects come by handle, not by where they stand.
func TestDownByHandle(t *testing.T) {
	things, _ := some()
	for _, n := range []int{340, 341, 400, 6399, 6400} {
		wantDown(t, scattered(n), once([]thing{things[1], things[0], things[2]}, nil))
	}
	all, leads := many()
	wantDown(t, now(all, leads), once(rising(all), leads))
}

// Roots come by place, with places left free ahead and between.
func TestDownByPlace(t *testing.T) {
	things, _ := some()
	for set := range 256 {
		b := scattered(400)
		var leads []lead
		for i := range 8 {
			if set>>i&1 == 1 {
				r := lead{rootNames[7-i], []int{2, 7, 40}[i%3]}
				putRoot(b, i, r)
				leads = append(leads, r)
			}
		}
		wantDown(t, b, once(rising(things), leads))
	}
}

func TestDownOfOneObject(t *testing.T) {
	for handle := 1; handle <= 40; handle++ {
		for tag := 0; tag <= 15; tag++ {
			o := thing{handle, tag, stuff(5, handle)}
			b := make([]byte, 300)
			put(b, o, 291)
			putRoot(b, handle%8, lead{"x", handle})
			wantDown(t, b, once([]thing{o}, []lead{{"x", handle}}))
		}
	}
}

func TestDownOfEachLen(t *testing.T) {
	for n := 1; n <= 1000; n++ {
		o := thing{3, 1, stuff(n, n)}
		b := make([]byte, 288+n)
		put(b, o, 288)
		if out, err := old.Down(b); err != nil || !bytes.Equal(out, once([]thing{o}, nil)) {
			t.Errorf("Down of an object of %d bytes: got %d bytes, %v", n, len(out), err)
		}
	}
}

// Other lengths are told first, whatever else is wrong.
func TestDownOfWhatIsNoImage(t *testing.T) {
	for _, n := range []int{0, 1, 6, 200, 287, 6401, 6402, 1<<16 + 288} {
		wantNoDown(t, make([]byte, n), api.ErrShape)
		wantNoDown(t, stuff(n, 1), api.ErrShape)
	}
	if b, err := old.Down(nil); plain.Told(err) != api.ErrShape || len(b) != 0 {
		t.Errorf("Down of nil: got %d bytes, %v", len(b), err)
	}
	wantNoDown(t, once(nil, nil), api.ErrShape)
	wantNoDown(t, once(some()), api.ErrShape)
	wantNoDown(t, once(many()), api.ErrState) // its 6350 bytes are the length of an image, and no object has such a tag
	whole := scattered(400)
	for n := range 288 {
		if b, err := old.Down(whole[:n]); plain.Told(err) != api.ErrShape || len(b) != 0 {
			t.Errorf("Down of an image cut at %d: got %d bytes, %v", n, len(b), err)
		}
	}
}

// Each fault of which Check tells, of handles and of roots.
func TestDownOfWhatIsWrong(t *testing.T) {
	right := scattered(400)
	putRoot(right, 1, lead{"main", 40})
	wrong := map[string][]byte{
		"stray: ahead of 288":    replaced(right, 5, 16, 31, 1, 1, 0),
		"stray: behind the end":  replaced(right, 195, 4, 136, 1, 9, 0),
		"stray: no bytes":        replaced(right, 5, 16, 74, 1, 0, 0),
		"stray: tag":             replaced(right, 5, 17),
		"stray: nothing of it":   replaced(right, 0, 1),
		"over":                   replaced(right, 5, 16, 33, 1, 1, 0),
		"over: 1 ahead of 7":     replaced(right, 0, 1, 72, 1, 2, 0),
		"empty: At":              replaced(right, 1, 32, 1, 0, 0),
		"empty: Len":             replaced(right, 3, 1, 0),
		"bad: no name":           replaced(right, 211, 77),
		"bad: a byte between":    replaced(right, 219, 1),
		"bad: no object":         replaced(right, 221, 1),
		"bad: handle 0":          replaced(right, 221, 0),
		"bad: no name, no bytes": replaced(right, 287, 7),
		"twice":                  replaced(right, 255, right[211:222]...),
		"all":                    bytes.Repeat([]byte{255}, 288),
		"an image of old":        replaced(make([]byte, 288), 0, once(nil, nil)...),
	}
	for what, b := range wrong {
		t.Run(what, func(t *testing.T) { wantNoDown(t, b, api.ErrState) })
	}
	things, _ := some()
	wantDown(t, right, once(rising(things), []lead{{"main", 40}}))
}

// An object of more than 1000 bytes is Stray, though all of it is there.
func TestDownOfMoreThanMayBe(t *testing.T) {
	b := make([]byte, 6400)
	put(b, thing{1, 0, stuff(1001, 1)}, 288)
	wantNoDown(t, b, api.ErrState)
}
