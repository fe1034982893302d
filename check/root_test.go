package check_test

import (
	"testing"

	"vaultkeel/api"
)

// led gives an image in which each handle below 30 has an object of one byte, the others are none.
func led() []byte {
	b := laid(400)
	for handle := 1; handle < 30; handle++ {
		b = object(b, handle, handle%16+1, 300+2*handle, 1)
	}
	return b
}

func TestRootsAreRight(t *testing.T) {
	for i := range 8 {
		for handle := 1; handle < 30; handle++ {
			wantFaults(t, root(led(), i, "main", handle))
		}
		for _, name := range []string{"a", "z", "ab", "eightlet", "zzzzzzzz"} {
			wantRight(t, root(led(), i, name, 29))
		}
		wantRight(t, noRoot(led(), i))
	}
}

func TestBadByName(t *testing.T) {
	for _, name := range []string{"", "A", "Main", "a b", " a", "a ", "\x00a", "a\x00b", "a\x00\x00\x00\x00\x00\x00b", "a1", "é", "eightleT", "`", "{", "a{", "\xff", "eightle\xff"} {
		for i := range 8 {
			wantOnly(t, root(led(), i, name, 1), bad(i))
		}
	}
}

// Each of the two bytes between the name and the handle.
func TestBadByBytesBetween(t *testing.T) {
	for i := range 8 {
		for _, name := range []string{"a", "eightlet"} {
			b := root(led(), i, name, 1)
			for _, c := range []byte{1, 'a', 128, 255} {
				wantOnly(t, replaced(b, 200+11*i+8, c), bad(i))
				wantOnly(t, replaced(b, 200+11*i+9, c), bad(i))
				wantOnly(t, replaced(b, 200+11*i+8, c, c), bad(i))
			}
		}
	}
}

func TestBadByHandle(t *testing.T) {
	for i := range 8 {
		for _, handle := range []int{0, 30, 31, 40, 41, 42, 128, 200, 255} {
			wantOnly(t, root(led(), i, "main", handle), bad(i))
		}
	}
}

// A root that leads to what is none with numbers, to one that is Stray, to one that is Over; and to one that another one is over.
func TestBadByWhatItLeadsTo(t *testing.T) {
	for i := range 8 {
		wantOnly(t, root(object(led(), 30, 0, 390, 1), i, "main", 30), none(30), bad(i))
		wantOnly(t, root(object(led(), 30, 17, 390, 1), i, "main", 30), stray(30), bad(i))
		wantOnly(t, root(object(led(), 30, 1, 400, 1), i, "main", 30), stray(30), bad(i))
		wantOnly(t, root(object(led(), 1, 1, 287, 1), i, "main", 1), stray(1), bad(i))
		wantOnly(t, root(object(led(), 30, 1, 300, 3), i, "main", 30), over(30), bad(i))
		wantOnly(t, root(object(led(), 30, 1, 300, 3), i, "main", 1), over(30))
		wantOnly(t, root(object(led(), 30, 17, 300, 3), i, "main", 1), stray(30))
	}
}

// A root is none if its eleven bytes are 0, and Bad if a single one is not: none is a name and a handle both.
func TestBadOfASingleByte(t *testing.T) {
	for i := range 8 {
		for k := range 11 {
			for _, c := range []byte{1, 5, 'a', 255} {
				wantOnly(t, replaced(led(), 200+11*i+k, c), bad(i))
			}
		}
	}
}

func TestTwice(t *testing.T) {
	for i := range 8 {
		for k := range i {
			for _, name := range []string{"a", "main", "eightlet"} {
				b := root(root(led(), k, name, 3), i, name, 4)
				wantOnly(t, b, twice(i))
				wantOnly(t, root(b, i, name, 3), twice(i))
			}
		}
	}
}

func TestTwiceOfThree(t *testing.T) {
	b := root(root(root(led(), 0, "main", 3), 4, "main", 4), 7, "main", 3)
	wantOnly(t, b, twice(4), twice(7))
	b = root(root(b, 1, "b", 1), 6, "b", 2)
	wantOnly(t, b, twice(4), twice(6), twice(7))
	all := led()
	var want []api.Fault
	for i := range 8 {
		all = root(all, i, "x", 8-i)
		if i > 0 {
			want = append(want, twice(i))
		}
	}
	wantOnly(t, all, want...)
}

// One ahead that is Bad has no name that others could have twice; one behind that is Bad is not Twice.
func TestTwiceAndBad(t *testing.T) {
	for _, handle := range []int{0, 30, 41, 255} {
		b := root(root(led(), 2, "main", handle), 3, "main", 1)
		wantOnly(t, b, bad(2))
		wantOnly(t, root(b, 5, "main", 2), bad(2), twice(5))
		wantOnly(t, root(b, 5, "main", handle), bad(2), bad(5))
	}
	between := replaced(root(root(led(), 2, "main", 1), 3, "main", 1), 222+9, 1)
	wantOnly(t, between, bad(2))
	wantOnly(t, replaced(between, 233+8, 1), bad(2), bad(3))
	overOne := root(root(object(led(), 30, 1, 302, 1), 0, "main", 30), 1, "main", 1)
	wantOnly(t, overOne, over(30), bad(0))
	names := root(root(led(), 0, "A", 1), 1, "A", 1)
	wantOnly(t, names, bad(0), bad(1))
}

// Names that begin in the same way are others.
func TestNamesThatAreNotTwice(t *testing.T) {
	b := led()
	for i, name := range []string{"a", "aa", "aaa", "aaaaaaaa", "aaaaaaab", "baaaaaaa", "b", "ab"} {
		b = root(b, i, name, 7)
	}
	wantRight(t, b)
}

// Where the handle stands is none of the name: the same name with other handles is Twice, other names with the same handle are not.
func TestRootsThatLeadToTheSame(t *testing.T) {
	b := led()
	for i := range 8 {
		b = root(b, i, "abcdefgh"[i:i+1], 5)
	}
	wantRight(t, b)
	wantOnly(t, root(b, 7, "a", 6), twice(7))
}
