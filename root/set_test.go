package root_test

import (
	"testing"

	"vaultkeel/api"
)

func TestSetOfShortAndLongNames(t *testing.T) {
	s := benchOf(t, some())
	s.set("a", 2, 0, true)
	s.set("z", 7, 1, true)
	s.set("eightlet", 40, 2, true)
	s.set("zzzzzzzz", 1, 3, true)
	s.set("sevenle", 2, 4, true)
	s.get("a", -1, 2)
	s.get("eightlet", -1, 40)
}

func TestSetOfEachLetter(t *testing.T) {
	for c := 'a'; c <= 'z'; c++ {
		s := benchOf(t, led())
		s.set("x"+string(c), 7, 0, true)
		s.set(string(c)+"wwwwwww", 2, 2, true)
		s.set("yyyyyyy"+string(c), 1, 3, true)
	}
}

func TestSetOfNoName(t *testing.T) {
	for _, b := range [][]byte{make([]byte, 288), led(), full()} {
		s := benchOf(t, b)
		for _, name := range noNames() {
			s.noSet(name, 2, api.ErrSyntax)
		}
	}
}

// What is wrong with the name is told ahead of what is wrong with the handle.
func TestSetOfNoNameAndNoHandle(t *testing.T) {
	s := benchOf(t, led())
	for _, name := range []string{"", "eightlets", "Main", "main ", "m\x00n"} {
		for _, handle := range noHandles {
			s.noSet(name, handle, api.ErrSyntax)
		}
		s.noSet(name, 3, api.ErrSyntax) // no object
	}
}

func TestSetOfNoHandle(t *testing.T) {
	for _, b := range [][]byte{make([]byte, 288), led(), full()} { // in full there is no place either
		s := benchOf(t, b)
		for _, handle := range noHandles {
			s.noSet("new", handle, api.ErrRange)
			s.noSet("main", handle, api.ErrRange)
			s.noSet("eightlet", handle, api.ErrRange)
		}
	}
}

func TestSetOfTheFirstAndTheLastHandle(t *testing.T) {
	s := benchOf(t, some())
	s.set("first", 1, 0, true)
	s.set("last", 40, 1, true)
	s.set("first", 40, 0, false)
	s.set("last", 1, 1, false)
}

func TestSetOfEachHandle(t *testing.T) {
	s := benchOf(t, full())
	for handle := 1; handle <= 40; handle++ {
		s.set("fff", handle, 2, false)
		s.get("fff", handle%16, handle)
	}
}

func TestSetOfNoObject(t *testing.T) {
	s := benchOf(t, make([]byte, 400))
	for handle := 1; handle <= 40; handle++ {
		s.noSet("main", handle, api.ErrNone)
	}
	s = benchOf(t, led())
	for _, handle := range []int{3, 6, 8, 39} {
		s.noSet("new", handle, api.ErrNone)
		s.noSet("main", handle, api.ErrNone) // one that leads elsewhere still does
		s.get("main", -1, 40)
	}
}

func TestSetOfWhatWasFreed(t *testing.T) {
	s := benchOf(t, led())
	s.free(7)
	s.noSet("new", 7, api.ErrNone)
	s.noSet("main", 7, api.ErrNone)
	s.alloc(41, 3, 3, 288)
	s.noSet("new", 7, api.ErrNone)
	s.set("new", 3, 0, true)
	s = benchOf(t, full())
	s.free(1)
	s.noSet("new", 1, api.ErrNone) // ahead of ErrFull
	s.noSet("h", 1, api.ErrNone)
	s.alloc(150, 0, 1, 6250)
	s.noSet("new", 1, api.ErrFull)
	s.set("h", 1, 0, false)
}

func TestSetLeadsElsewhereInItsOwnPlace(t *testing.T) {
	s := benchOf(t, led()) // main at 1, b at 6
	s.set("main", 7, 1, false)
	s.set("main", 2, 1, false)
	s.set("b", 40, 6, false)
	s.set("main", 40, 1, false)
}

func TestSetToWhereItLedAlready(t *testing.T) {
	s := benchOf(t, led())
	s.set("main", 40, 1, false)
	s.set("main", 40, 1, false)
	s.set("b", 2, 6, false)
	s = benchOf(t, full())
	for i, name := range eight {
		s.set(name, 40-5*i, i, false)
	}
}

func TestSetWhereAllPlacesAreTaken(t *testing.T) {
	s := benchOf(t, full())
	for i, name := range eight {
		s.set(name, 1+i, i, false)
	}
	s.noSet("ninth", 1, api.ErrFull)
	for i, name := range eight {
		s.get(name, 1+i, 1+i)
	}
}

func TestSetOfTheNinth(t *testing.T) {
	s := benchOf(t, some())
	handles := []int{1, 2, 7, 40}
	for i, name := range eight {
		s.set(name, handles[i%4], i, true)
	}
	for _, name := range []string{"ninth", "i", "hh", "g", "eightle", "zzzzzzzz"} {
		s.noSet(name, 2, api.ErrFull)
		s.noGet(name, -1, api.ErrNone)
		s.noUnset(name, api.ErrNone)
	}
	s.unset("eeee", 3)
	s.set("ninth", 2, 3, true)
	s.noSet("eeee", 2, api.ErrFull)
}

// Where there is no place either, all else that is wrong is told ahead of it.
func TestSetIsFullLastOfAll(t *testing.T) {
	s := benchOf(t, full())
	s.free(3)
	s.noSet("Ninth", 41, api.ErrSyntax)
	s.noSet("Ninth", 3, api.ErrSyntax)
	s.noSet("Ninth", 1, api.ErrSyntax)
	s.noSet("ninth", 41, api.ErrRange)
	s.noSet("ninth", 0, api.ErrRange)
	s.noSet("ninth", 3, api.ErrNone)
	s.noSet("ninth", 1, api.ErrFull)
}

func TestSetStandsAtTheFirstPlaceThatHasNone(t *testing.T) {
	s := benchOf(t, led()) // main at 1, b at 6
	for i, place := range []int{0, 2, 3, 4, 5, 7} {
		s.set(eight[i], 7, place, true)
	}
	s.noSet("ninth", 7, api.ErrFull)
}

func TestSetAtEachPlaceAlone(t *testing.T) {
	for place := range 8 {
		s := benchOf(t, full())
		s.unset(eight[place], place)
		s.set("new", 40, place, true)
		s.set("new", 1, place, false)
		s.noSet(eight[place], 2, api.ErrFull)
	}
}

func TestSetBehindUnsets(t *testing.T) {
	s := benchOf(t, full())
	s.unset(eight[5], 5)
	s.unset(eight[2], 2)
	s.unset(eight[7], 7)
	s.set(eight[7], 1, 2, true) // the first one, not where it was, and not the one that was left last
	s.set("x", 2, 5, true)
	s.set(eight[7], 3, 2, false)
	s.set(eight[2], 4, 7, true)
	s.noSet(eight[5], 5, api.ErrFull)
	s.unset(eight[0], 0)
	s.set(eight[0], 6, 0, true)
}

// A name that stands behind a place which has none leads elsewhere where it is: it is not made anew ahead.
func TestSetFindsItsNameBehindAPlaceWithNone(t *testing.T) {
	s := benchOf(t, lead(some(), 7, "main", 2))
	s.set("main", 7, 7, false)
	s.set("mai", 7, 0, true)
	s.set("main", 40, 7, false)
	s.set("mai", 40, 0, false)
}

func TestSetOfTwoNamesThatLeadToOne(t *testing.T) {
	s := benchOf(t, some())
	s.set("one", 7, 0, true)
	s.set("two", 7, 1, true)
	s.set("three", 7, 2, true)
	s.noFree(7)
	s.set("one", 2, 0, false)
	s.get("two", 15, 7)
	s.unset("two", 1)
	s.noFree(7)
	s.get("three", 15, 7)
	s.unset("three", 2)
	s.free(7)
}

func TestSetOfNamesThatBeginWithOneAnother(t *testing.T) {
	for _, names := range [][]string{
		{"a", "ab", "abc", "abcd", "abcde", "abcdef", "abcdefg", "abcdefgh"},
		{"abcdefgh", "abcdefg", "abcdef", "abcde", "abcd", "abc", "ab", "a"},
	} {
		s := benchOf(t, some())
		handles := []int{1, 2, 7, 40}
		for i, name := range names {
			s.noGet(name, -1, api.ErrNone)
			s.noUnset(name, api.ErrNone)
			s.set(name, handles[i%4], i, true)
		}
		for i, name := range names {
			s.get(name, -1, handles[i%4])
			s.set(name, handles[(i+1)%4], i, false)
		}
		for i, name := range names {
			s.get(name, -1, handles[(i+1)%4])
			s.unset(name, i)
			s.noUnset(name, api.ErrNone)
		}
	}
}

func TestSetOfNamesThatEndWithOneAnother(t *testing.T) {
	s := benchOf(t, some())
	s.set("ab", 1, 0, true)
	s.set("b", 2, 1, true)
	s.set("ba", 7, 2, true)
	s.set("aab", 40, 3, true)
	s.get("ab", 9, 1)
	s.get("b", 0, 2)
	s.unset("ab", 0)
	s.get("aab", 4, 40)
	s.get("b", 0, 2)
}

// The bytes of objects that read as a root are none.
func TestSetLooksAtRootsAlone(t *testing.T) {
	b := replaced(some(), 289, []byte("main\x00\x00\x00\x00\x00\x00\x02other\x00\x00\x00\x00\x00\x02")...)
	s := benchOf(t, b)
	s.noGet("main", -1, api.ErrNone)
	s.noUnset("main", api.ErrNone)
	s.set("main", 1, 0, true)
	s.set("other", 1, 1, true)
}

// Images of the least and the greatest length have the same places.
func TestSetInImagesOfEachLength(t *testing.T) {
	for _, n := range []int{289, 290, 320, 400, 6399, 6400} {
		b := object(laid(n), 17, 6, n-1, 1)
		s := benchOf(t, b)
		for i, name := range eight {
			s.set(name, 17, i, true)
		}
		s.noSet("ninth", 17, api.ErrFull)
	}
	none := benchOf(t, make([]byte, 288)) // no object has room there
	none.noSet("main", 1, api.ErrNone)
}
