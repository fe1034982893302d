package reach_test

import (
	"slices"
	"testing"

	"vaultkeel/api"
)

// bytesTo gives the bytes 1 to n.
func bytesTo(n int) []byte {
	var l []byte
	for i := 1; i <= n; i++ {
		l = append(l, byte(i))
	}
	return l
}

// crowd gives 40 objects that name nobody, but for one that is given.
func crowd(one thing) []thing {
	l := []thing{one}
	for handle := 1; handle <= 40; handle++ {
		if handle != one.handle {
			l = append(l, leaf(handle))
		}
	}
	return l
}

func TestRefsOfTheTagsNoneOneAndMost(t *testing.T) {
	s := benchOf(t, laid(6400, nil, crowd(thing{39, 0, bytesTo(30)})...))
	s.refs(39)
	s = benchOf(t, laid(6400, nil, crowd(thing{39, 1, bytesTo(30)})...))
	s.refs(39, 1)
	s = benchOf(t, laid(6400, nil, crowd(thing{39, 15, bytesTo(30)})...))
	s.refs(39, 1, 2, 3, 4, 5, 6, 7, 8, 9, 10, 11, 12, 13, 14, 15)
}

// Of each tag, and of each size about it: as many bytes as the tag says name, and no more than there are, though those behind are handles too.
func TestRefsOfEachTagAndSize(t *testing.T) {
	for tag := range 16 {
		for size := 1; size <= 18; size++ {
			s := benchOf(t, laid(6400, nil, crowd(thing{39, tag, bytesTo(size)})...))
			s.refs(39, upTo(min(tag, size))...)
		}
	}
}

func TestRefsOfTheLongestObject(t *testing.T) {
	body := slices.Concat(make([]byte, 14), []byte{7, 8}, make([]byte, 983), []byte{9})
	s := benchOf(t, laid(6400, nil, crowd(thing{39, 15, body})...))
	s.refs(39, 7)
	s = benchOf(t, laid(6400, nil, crowd(thing{39, 14, body})...))
	s.refs(39)
}

// A handle right behind the first bytes is not named, be it in the object or behind its end.
func TestRefsLookAtNoByteBehind(t *testing.T) {
	s := benchOf(t, laid(400, nil, leaf(2), leaf(3), thing{1, 2, []byte{0, 2, 3}}))
	s.refs(1, 2)
	b := replaced(laid(400, nil, thing{2, 0, []byte{3, 3, 3}}), 390, 2, 3, 2, 2)
	s = benchOf(t, object(object(b, 1, 16, 390, 1), 3, 16, 394, 3)) // 1 ends where bytes that nobody has begin, 3 where those of 2 do
	s.refs(1, 2)
	s.write(3, 0, 0, 0, 1)
	s.refs(3, 1)
}

// The first bytes of an object name, not those ahead of it.
func TestRefsLookAtNoByteAhead(t *testing.T) {
	b := replaced(make([]byte, 400), 300, 1, 1, 2, 1)
	s := benchOf(t, object(object(b, 1, 2, 302, 1), 2, 2, 390, 1))
	s.refs(1, 2)
	s.refs(2)
}

// Each byte there is, alone: it names an object just if it is its handle.
func TestRefsOfEachByte(t *testing.T) {
	for c := range 256 {
		s := benchOf(t, laid(6400, nil, crowd(thing{39, 1, []byte{byte(c)}})...))
		if 1 <= c && c <= 40 {
			s.refs(39, c)
		} else {
			s.refs(39)
		}
	}
}

func TestRefsOfBytesThatNameNobody(t *testing.T) {
	s := benchOf(t, laid(400, nil, leaf(1), leaf(40), thing{7, 15, []byte{0, 41, 255, 2, 39, 42, 128, 6, 8, 129, 168, 0, 256 - 40, 41, 3}}))
	s.refs(7)
	s.write(7, 5, 40)
	s.refs(7, 40)
	s.write(7, 14, 1)
	s.refs(7, 40, 1)
}

func TestRefsOfTheFirstAndTheLastHandle(t *testing.T) {
	who := names(7, 1, 40)
	s := benchOf(t, laid(400, nil, who))
	s.refs(7)
	s = benchOf(t, laid(400, nil, who, leaf(1)))
	s.refs(7, 1)
	s = benchOf(t, laid(400, nil, who, leaf(40)))
	s.refs(7, 40)
	s = benchOf(t, laid(400, nil, who, leaf(1), leaf(40)))
	s.refs(7, 1, 40)
	s = benchOf(t, laid(400, nil, names(1, 40), names(40, 1)))
	s.refs(1, 40)
	s.refs(40, 1)
}

func TestRefsOfOneThatWasFreed(t *testing.T) {
	s := benchOf(t, laid(400, nil, names(1, 3, 2), leaf(2), leaf(3)))
	s.refs(1, 3, 2)
	s.free(3)
	s.refs(1, 2)
	s.free(2)
	s.refs(1)
	s.alloc(4, 9, 2) // another one of this handle is named as well
	s.refs(1, 2)
}

func TestRefsStandInTheirOrder(t *testing.T) {
	s := benchOf(t, laid(6400, nil, crowd(names(20, 40, 3, 17, 1, 39, 2))...))
	s.refs(20, 40, 3, 17, 1, 39, 2)
	s.write(20, 0, 2, 1, 40, 39, 38, 37)
	s.refs(20, 2, 1, 40, 39, 38, 37)
}

func TestRefsOfOneThatIsNamedAgain(t *testing.T) {
	s := benchOf(t, laid(6400, nil, crowd(names(20, 5, 5))...))
	s.refs(20, 5)
	s = benchOf(t, laid(6400, nil, crowd(names(20, 9, 4, 9, 0, 4, 7, 9, 41, 4, 2))...))
	s.refs(20, 9, 4, 7, 2)
	s = benchOf(t, laid(6400, nil, crowd(names(20, 6, 6, 6, 6, 6, 6, 6, 6, 6, 6, 6, 6, 6, 6, 6))...))
	s.refs(20, 6)
}

func TestRefsOfOneThatNamesItself(t *testing.T) {
	s := benchOf(t, laid(400, nil, names(7, 7), names(8, 7, 8, 7, 8)))
	s.refs(7, 7)
	s.refs(8, 7, 8)
	s = benchOf(t, laid(400, nil, names(1, 1)))
	s.refs(1, 1)
	s = benchOf(t, laid(400, nil, names(40, 0, 40)))
	s.refs(40, 40)
}

// Whether an object is live is no matter of Refs, and roots are none.
func TestRefsOfTheLiveAndTheDead(t *testing.T) {
	s := benchOf(t, laid(400, []int{3}, names(1, 2), names(2, 1, 3), names(3, 1), leaf(4)))
	s.refs(1, 2)
	s.refs(2, 1, 3)
	s.refs(3, 1)
	s.refs(4)
	s.unset("h")
	s.refs(1, 2)
	s.refs(3, 1)
}

func TestRefsAndPathOfNoHandle(t *testing.T) {
	for _, b := range [][]byte{
		make([]byte, 288),
		laid(400, []int{1}, names(1, 2, 40), names(2, 1), leaf(40)),
		laid(6400, []int{1}, everyone(func(handle int) byte { return byte(handle%40 + 1) })...),
	} {
		s := benchOf(t, b)
		for _, handle := range noHandles {
			s.noRefs(handle, api.ErrRange)
			s.noPath(handle, api.ErrRange)
		}
	}
}

func TestRefsAndPathOfNoObject(t *testing.T) {
	none := benchOf(t, make([]byte, 288))
	for handle := 1; handle <= 40; handle++ {
		none.noRefs(handle, api.ErrNone)
		none.noPath(handle, api.ErrNone)
	}
	s := benchOf(t, laid(400, []int{2}, names(2, 3, 1, 40), leaf(39))) // named, but none
	for _, handle := range []int{1, 3, 38, 40} {
		s.noRefs(handle, api.ErrNone)
		s.noPath(handle, api.ErrNone)
	}
	s.unset("h")
	s.free(2)
	s.noRefs(2, api.ErrNone)
	s.noPath(2, api.ErrNone)
}
