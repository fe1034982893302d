package root_test

import (
	"math/rand"
	"testing"

	"vaultkeel/api"
)

// model is a bench whose roots and tags are kept beside it, not read from its image.
type model struct {
	*bench
	places [8]api.Root // an empty name: none
	tags   map[int]int // by handle
}

// drawnNames are those of which a call is drawn: more than there are places, and some that are none.
var drawnNames = []string{"a", "ab", "abc", "abcdefgh", "abcdefg", "b", "ba", "main", "mains", "zz", "zzzzzzzz", "q", "", "abcdefghi", "A", "a b"}

func (m *model) placeOf(name string) int {
	for i, r := range m.places {
		if r.Name == name {
			return i
		}
	}
	return -1
}

func (m *model) isLed(handle int) bool {
	for _, r := range m.places {
		if r.Handle == handle {
			return true
		}
	}
	return false
}

// isName tells whether a drawn text is a name: all but the last four are.
func isName(name string) bool {
	for _, s := range drawnNames[len(drawnNames)-4:] {
		if s == name {
			return false
		}
	}
	return true
}

func (m *model) drawnSet(name string, handle int) string {
	m.t.Helper()
	_, isObject := m.tags[handle]
	place, free := m.placeOf(name), m.placeOf("")
	switch {
	case !isName(name):
		m.noSet(name, handle, api.ErrSyntax)
		return "wrong name"
	case handle < 1 || handle > 40:
		m.noSet(name, handle, api.ErrRange)
		return "wrong handle"
	case !isObject:
		m.noSet(name, handle, api.ErrNone)
		return "no object"
	case place >= 0:
		m.set(name, handle, place, false)
		m.places[place].Handle = handle
		return "set elsewhere"
	case free < 0:
		m.noSet(name, handle, api.ErrFull)
		return "full"
	}
	m.set(name, handle, free, true)
	m.places[free] = api.Root{Name: name, Handle: handle}
	return "set anew"
}

func (m *model) drawnUnset(name string) string {
	m.t.Helper()
	if !isName(name) {
		m.noUnset(name, api.ErrSyntax)
		return "wrong name"
	}
	place := m.placeOf(name)
	if place < 0 {
		m.noUnset(name, api.ErrNone)
		return "no root"
	}
	m.unset(name, place)
	m.places[place] = api.Root{}
	return "unset"
}

func (m *model) drawnGet(name string, tag int) string {
	m.t.Helper()
	place := m.placeOf(name)
	switch {
	case !isName(name):
		m.noGet(name, tag, api.ErrSyntax)
		return "wrong name"
	case tag < -1 || tag > 15:
		m.noGet(name, tag, api.ErrRange)
		return "wrong tag"
	case place < 0:
		m.noGet(name, tag, api.ErrNone)
		return "no root"
	case tag >= 0 && tag != m.tags[m.places[place].Handle]:
		m.noGet(name, tag, api.ErrTag)
		return "another tag"
	}
	m.get(name, tag, m.places[place].Handle)
	return "get"
}

func (m *model) drawnFree(handle int) string {
	m.t.Helper()
	if _, isObject := m.tags[handle]; !isObject {
		return "nothing"
	}
	if m.isLed(handle) {
		m.noFree(handle)
		return "not freed"
	}
	m.free(handle)
	delete(m.tags, handle)
	return "freed"
}

// drawnAlloc makes an object, wherever that stands: it is no matter of roots.
func (m *model) drawnAlloc(tag int) {
	m.t.Helper()
	handle, err := m.heap.Alloc(1+tag, tag)
	if err != nil {
		return
	}
	m.tags[handle] = tag
	m.now = m.heap.Bytes()
	m.want("Alloc")
}

// wantPlaces asks for the roots that were kept, by place.
func (m *model) wantPlaces() {
	m.t.Helper()
	var want []api.Root
	for _, r := range m.places {
		if r.Name != "" {
			want = append(want, r)
		}
	}
	m.wantRoots(want...)
}

func (m *model) step(r *rand.Rand) string {
	m.t.Helper()
	name := drawnNames[r.Intn(len(drawnNames))]
	handle := r.Intn(12) // few objects, so that names often lead to the same
	switch r.Intn(12) {
	case 0:
		m.drawnAlloc(r.Intn(4))
		return "alloc"
	case 1:
		return m.drawnFree(handle)
	case 2, 3, 4:
		return m.drawnUnset(name)
	case 5, 6:
		return m.drawnGet(name, r.Intn(6)-2)
	case 7:
		return m.drawnGet(name, r.Intn(40)-20)
	}
	return m.drawnSet(name, handle)
}

// Drawn calls, one behind the other: behind each of them all is as in roots that were kept by hand.
func TestDrawnCalls(t *testing.T) {
	r := rand.New(rand.NewSource(12))
	did := map[string]int{}
	for _, n := range []int{300, 400, 6400} {
		for range 4 {
			m := &model{bench: benchOf(t, laid(n)), tags: map[int]int{}}
			for range 8 {
				m.drawnAlloc(r.Intn(4))
			}
			for range 400 {
				did[m.step(r)]++
				m.wantPlaces()
			}
		}
	}
	for _, what := range []string{"alloc", "freed", "not freed", "wrong name", "wrong handle", "no object", "set elsewhere", "set anew", "full", "no root", "unset", "wrong tag", "another tag", "get"} {
		if did[what] < 30 {
			t.Errorf("%s was drawn %d times: the drawn calls do not ask enough", what, did[what])
		}
	}
}
