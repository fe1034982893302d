package root_test

import (
	"testing"

	"vaultkeel/api"
)

func TestUnsetOfNoName(t *testing.T) {
	for _, b := range [][]byte{make([]byte, 288), led(), full()} {
		s := benchOf(t, b)
		for _, name := range noNames() {
			s.noUnset(name, api.ErrSyntax)
		}
	}
}

func TestUnsetOfNone(t *testing.T) {
	s := benchOf(t, make([]byte, 288))
	s.noUnset("main", api.ErrNone)
	s.noUnset("a", api.ErrNone)
	s.noUnset("eightlet", api.ErrNone)
	s = benchOf(t, led()) // has main and b
	for _, name := range []string{"a", "bb", "mai", "maim", "mainn", "mainmain", "ain", "c"} {
		s.noUnset(name, api.ErrNone)
	}
	s = benchOf(t, full())
	s.noUnset("ninth", api.ErrNone)
	s.noUnset("g", api.ErrNone)
}

func TestUnsetOfOneThatWasUnset(t *testing.T) {
	s := benchOf(t, led())
	s.unset("main", 1)
	s.noUnset("main", api.ErrNone)
	s.unset("b", 6)
	s.noUnset("b", api.ErrNone)
	s.noUnset("main", api.ErrNone)
	s.set("main", 2, 0, true)
	s.unset("main", 0) // it is one anew
	s.noUnset("main", api.ErrNone)
}

func TestUnsetLeavesOthersInTheirPlaces(t *testing.T) {
	for place, name := range eight {
		s := benchOf(t, full())
		s.unset(name, place)
		for i, other := range eight {
			if i != place {
				s.get(other, -1, 40-5*i)
			}
		}
		s.noUnset(name, api.ErrNone)
	}
}

func TestUnsetOfAll(t *testing.T) {
	s := benchOf(t, full())
	for _, i := range []int{3, 0, 7, 4, 1, 6, 2, 5} {
		s.noFree(40 - 5*i)
		s.unset(eight[i], i)
		s.free(40 - 5*i)
	}
	for _, name := range eight {
		s.noUnset(name, api.ErrNone)
	}
}

func TestUnsetLetsItsObjectBeFreed(t *testing.T) {
	s := benchOf(t, led())
	s.noFree(40)
	s.noFree(2)
	s.unset("main", 1)
	s.free(40)
	s.noFree(2)
	s.unset("b", 6)
	s.free(2)
}

// A root that leads elsewhere hinders there, and no longer where it led.
func TestSetElsewhereLetsItsObjectBeFreed(t *testing.T) {
	s := benchOf(t, led())
	s.noFree(40)
	s.set("main", 7, 1, false)
	s.noFree(7)
	s.free(40)
	s.noSet("main", 40, api.ErrNone)
	s.get("main", 15, 7)
	s.noFree(7)
}
