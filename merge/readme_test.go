package merge_test

import "testing"

// The example of README.md.
func TestExample(t *testing.T) {
	base := of(thing{1, 0, "one"}, thing{2, 0, "two"}, thing{3, 0, "three"}).led(lead{"main", 1})
	a := of(thing{1, 0, "ONE"}, thing{3, 0, "THREE"}).led(lead{"main", 1})
	b := of(thing{1, 0, "one"}, thing{2, 0, "two"}, thing{3, 0, "drei"}, thing{4, 0, "four"}).led(lead{"main", 4}, lead{"name", 2})
	wantMovedWorlds(t, 400, base, a, 1, 2, 3)
	wantMerged(t, 400, base, a, b, of(thing{1, 0, "ONE"}, thing{3, 0, "THREE"}, thing{4, 0, "four"}).led(lead{"main", 4}), 3)
}
