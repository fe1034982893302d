package root_test

import (
	"testing"

	"vaultkeel/api"
)

func TestGetOfAnyTag(t *testing.T) {
	s := benchOf(t, led())
	s.get("main", -1, 40)
	s.get("b", -1, 2)
	s = benchOf(t, full())
	for i, name := range eight {
		s.get(name, -1, 40-5*i)
	}
}

// Each object has one tag; of all that may be, Get takes just this one.
func TestGetOfEachTag(t *testing.T) {
	for own := range 16 {
		s := benchOf(t, lead(object(laid(400), 9, own+1, 300, 7), 4, "main", 9))
		s.get("main", -1, 9)
		for tag := range 16 {
			if tag == own {
				s.get("main", tag, 9)
			} else {
				s.noGet("main", tag, api.ErrTag)
			}
		}
	}
}

func TestGetOfItsTagAndOthers(t *testing.T) {
	s := benchOf(t, led()) // b leads to 2, of the tag 0; main to 40, of the tag 4
	s.get("b", 0, 2)
	s.noGet("b", 1, api.ErrTag)
	s.noGet("b", 15, api.ErrTag)
	s.get("main", 4, 40)
	s.noGet("main", 0, api.ErrTag)
	s.noGet("main", 3, api.ErrTag)
	s.noGet("main", 5, api.ErrTag)
	s.set("main", 7, 1, false)
	s.noGet("main", 4, api.ErrTag) // that of the object to which it led
	s.get("main", 15, 7)
}

// A handle that is another object then has the tag of that one.
func TestGetOfATagThatHasChanged(t *testing.T) {
	s := benchOf(t, led())
	s.unset("main", 1)
	s.free(40)
	s.free(7)
	s.alloc(41, 4, 3, 288)
	s.set("main", 3, 0, true)
	s.get("main", 4, 3)
	s.unset("main", 0)
	s.free(3)
	s.alloc(41, 5, 3, 288)
	s.set("main", 3, 0, true)
	s.noGet("main", 4, api.ErrTag)
	s.get("main", 5, 3)
}

func TestGetOfNoName(t *testing.T) {
	for _, b := range [][]byte{make([]byte, 288), led(), full()} {
		s := benchOf(t, b)
		for _, name := range noNames() {
			s.noGet(name, -1, api.ErrSyntax)
		}
	}
}

func TestGetOfNoTag(t *testing.T) {
	for _, b := range [][]byte{led(), full()} {
		s := benchOf(t, b)
		for _, tag := range noTags {
			s.noGet("main", tag, api.ErrRange)
			s.noGet("b", tag, api.ErrRange)
			s.noGet("h", tag, api.ErrRange)
			s.noGet("eightlet", tag, api.ErrRange)
		}
	}
}

func TestGetOfNoRoot(t *testing.T) {
	s := benchOf(t, some())
	s.noGet("main", -1, api.ErrNone)
	s = benchOf(t, led())
	for _, name := range []string{"a", "bb", "mai", "mainn", "ain", "eightlet"} {
		for tag := -1; tag <= 15; tag++ {
			s.noGet(name, tag, api.ErrNone)
		}
	}
	s.unset("main", 1)
	s.noGet("main", 4, api.ErrNone)
	s.noSet("main", 3, api.ErrNone)
	s.noGet("main", 4, api.ErrNone)
}

// Of several things that are wrong at once the first is told: the name, the tag that is none, no root, another tag.
func TestGetWithMoreThanOneFault(t *testing.T) {
	for _, b := range [][]byte{make([]byte, 288), led(), full()} {
		s := benchOf(t, b)
		for _, tag := range noTags {
			s.noGet("", tag, api.ErrSyntax)
			s.noGet("Main", tag, api.ErrSyntax)
			s.noGet("eightlets", tag, api.ErrSyntax)
			s.noGet("ninth", tag, api.ErrRange)
		}
		for tag := range 16 {
			s.noGet("main ", tag, api.ErrSyntax)
			s.noGet("ninth", tag, api.ErrNone)
		}
	}
}

func TestAllOfNone(t *testing.T) {
	for _, b := range [][]byte{make([]byte, 288), laid(400), some()} {
		s := benchOf(t, b)
		s.wantRoots()
	}
}

func TestAllByPlace(t *testing.T) {
	s := benchOf(t, led())
	s.wantRoots(api.Root{Name: "main", Handle: 40}, api.Root{Name: "b", Handle: 2})
	s.set("z", 7, 0, true)
	s.set("a", 7, 2, true)
	s.wantRoots(api.Root{Name: "z", Handle: 7}, api.Root{Name: "main", Handle: 40}, api.Root{Name: "a", Handle: 7}, api.Root{Name: "b", Handle: 2})
	s.unset("main", 1)
	s.wantRoots(api.Root{Name: "z", Handle: 7}, api.Root{Name: "a", Handle: 7}, api.Root{Name: "b", Handle: 2})
	s.set("y", 1, 1, true)
	s.set("b", 40, 6, false)
	s.wantRoots(api.Root{Name: "z", Handle: 7}, api.Root{Name: "y", Handle: 1}, api.Root{Name: "a", Handle: 7}, api.Root{Name: "b", Handle: 40})
	for _, r := range []struct {
		name  string
		place int
	}{{"y", 1}, {"z", 0}, {"b", 6}, {"a", 2}} {
		s.unset(r.name, r.place)
	}
	s.wantRoots()
}

func TestAllOfEight(t *testing.T) {
	s := benchOf(t, full())
	var want []api.Root
	for i, name := range eight {
		want = append(want, api.Root{Name: name, Handle: 40 - 5*i})
	}
	s.wantRoots(want...)
	s.set("fff", 1, 2, false)
	want[2].Handle = 1
	s.wantRoots(want...)
	s.unset("fff", 2)
	s.set("aaa", 2, 2, true)
	want[2] = api.Root{Name: "aaa", Handle: 2}
	s.wantRoots(want...)
}
