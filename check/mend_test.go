package check_test

import (
	"bytes"
	"testing"

	"vaultkeel/api"
	"vaultkeel/check"
)

func TestMendWhatIsRight(t *testing.T) {
	for _, b := range [][]byte{make([]byte, 288), make([]byte, 6400), laid(289), some(), full(), led()} {
		wantMended(t, b, b)
	}
}

// Each fault by itself, amid what is right: the bytes of that handle or root are 0, and no other byte is another.
func TestMendOneFault(t *testing.T) {
	b := some()
	for _, one := range []struct {
		wrong []byte
		at, n int
	}{
		{object(b, 1, 17, 288, 1), 0, 5},
		{object(b, 1, 1, 287, 1), 0, 5},
		{object(b, 39, 1, 400, 1), 190, 5},
		{object(b, 8, 1, 289, 1), 35, 5},
		{object(b, 39, 16, 288, 2), 190, 5},
		{object(b, 1, 0, 288, 1), 0, 5},
		{object(b, 39, 0, 0, 1), 190, 5},
		{root(b, 0, "A", 2), 200, 11},
		{root(b, 0, "a", 1), 200, 11},
		{root(b, 7, "main", 40), 277, 11},
		{root(b, 7, "b", 7), 277, 11},
		{replaced(root(b, 7, "c", 7), 277+8, 1), 277, 11},
	} {
		wantMended(t, one.wrong, replaced(one.wrong, one.at, make([]byte, one.n)...))
		wantMended(t, one.wrong, b)
	}
}

// The bytes that such an object had stay as they are: nobody has them then.
func TestMendLeavesBytesOfObjects(t *testing.T) {
	b := object(laid(6400), 1, 1, 288, 1000)
	wrong := object(b, 2, 1, 1287, 1000)
	out, err := check.Mend(wrong)
	if err != nil || !bytes.Equal(out[288:], b[288:]) {
		t.Errorf("Mend changed bytes behind the head: %v", err)
	}
	wantMended(t, wrong, b)
}

// Objects and the roots that lead to them, all at once; roots that lead to others stay, and so do these.
func TestMendSeveral(t *testing.T) {
	b := some()
	wrong := object(b, 1, 17, 300, 4)
	wrong = object(wrong, 3, 1, 349, 3)
	wrong = object(wrong, 4, 0, 9, 9)
	wrong = object(wrong, 5, 1, 288, 2)
	wrong = object(wrong, 6, 3, 65_535, 1)
	wrong = root(wrong, 0, "one", 1)
	wrong = root(wrong, 2, "main", 3)
	wrong = root(wrong, 3, "main", 2)
	wrong = root(wrong, 4, "four", 4)
	wrong = root(wrong, 5, "five", 5)
	wrong = root(wrong, 7, "b", 5)
	wantOnly(t, wrong, stray(1), over(3), none(4), stray(6), over(7), over(40), bad(0), bad(1), bad(2), bad(4), twice(7))
	left := object(object(laid(400), 2, 1, 330, 20), 5, 1, 288, 2)
	wantMended(t, wrong, root(root(root(left, 3, "main", 2), 5, "five", 5), 6, "b", 2))
}

// Chains of such as are over one another: all but the first go, though without those between some would be over none.
func TestMendChain(t *testing.T) {
	b := object(laid(400), 1, 1, 300, 10)
	wrong := object(object(b, 2, 1, 305, 10), 3, 1, 312, 10)
	wrong = root(root(wrong, 0, "three", 3), 1, "one", 1)
	wantMended(t, wrong, root(b, 1, "one", 1))
}

// A name that is there twice: the first that is not Bad stays.
func TestMendNames(t *testing.T) {
	b := root(led(), 3, "main", 2)
	wrong := root(root(root(b, 0, "main", 40), 5, "main", 3), 7, "main", 41)
	wantOnly(t, wrong, bad(0), twice(5), bad(7))
	wantMended(t, wrong, b)
}

// What had no fault is there as it was, whatever else is mended.
func TestMendKeepsWhatIsRight(t *testing.T) {
	for _, wrong := range [][]byte{object(full(), 33, 255, 0, 0), object(full(), 1, 0, 1, 1), object(full(), 40, 1, 288, 1000)} {
		out, err := check.Mend(wrong)
		if err != nil {
			t.Fatal(err)
		}
		faults := faultsOf(wrong)
		for handle := 1; handle <= 40; handle++ {
			at := 5 * (handle - 1)
			if is := bytes.Equal(out[at:at+5], wrong[at:at+5]); is == hasFault(faults, handle, 1, 2, 3) {
				t.Errorf("handle %d: as it was: %v; faults %v", handle, is, faults)
			}
		}
		for i := range 8 {
			at := 200 + 11*i
			if is := bytes.Equal(out[at:at+11], wrong[at:at+11]); is == hasFault(faults, i, 4, 5) {
				t.Errorf("root %d: as it was: %v; faults %v", i, is, faults)
			}
		}
	}
}

// hasFault tells whether a handle, or a root, has one of some faults.
func hasFault(l []api.Fault, which int, whats ...int) bool {
	for _, f := range l {
		for _, what := range whats {
			if f == (api.Fault{What: what, Which: which}) {
				return true
			}
		}
	}
	return false
}
