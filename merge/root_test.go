package merge_test

import (
	"slices"
	"strings"
	"testing"
)

// four objects to which roots may lead.
func four() world {
	return of(thing{1, 1, "one"}, thing{2, 2, "two"}, thing{3, 3, "three"}, thing{4, 4, "four"})
}

// but gives four objects without one of them.
func but(handle int) world {
	return world{things: slices.DeleteFunc(four().things, func(o thing) bool { return o.handle == handle })}
}

// wantLeads asks for roots where nobody touches the four objects.
func wantLeads(t *testing.T, base, a, b, want []lead) {
	t.Helper()
	wantMerged(t, 400, four().led(base...), four().led(a...), four().led(b...), four().led(want...))
}

// leads gives roots as they are written: a name and the digit of a handle each.
func leads(s string) []lead {
	var l []lead
	for _, w := range strings.Fields(s) {
		last := len(w) - 1
		l = append(l, lead{w[:last], int(w[last] - '0')})
	}
	return l
}

func TestRootsByName(t *testing.T) {
	for _, c := range []struct{ what, base, a, b, want string }{
		{"nothing", "", "", "", ""},
		{"nothing changed", "main1", "main1", "main1", "main1"},
		{"set in a", "", "main1", "", "main1"},
		{"set in b", "", "", "main1", "main1"},
		{"set in a beside one", "b2", "main1 b2", "b2", "b2 main1"},
		{"set in b beside one", "b2", "b2", "main1 b2", "b2 main1"},
		{"set elsewhere in a", "main1", "main2", "main1", "main2"},
		{"set elsewhere in b", "main1", "main1", "main2", "main2"},
		{"unset in a", "main1", "", "main1", ""},
		{"unset in b", "main1", "main1", "", ""},
		{"set in both alike", "", "main1", "main1", "main1"},
		{"set elsewhere in both alike", "main1", "main2", "main2", "main2"},
		{"unset in both", "main1", "", "", ""},
		{"set in both otherwise", "", "main1", "main2", "main1"},
		{"set elsewhere in both otherwise", "main1", "main2", "main3", "main2"},
		{"unset in a, set elsewhere in b", "main1", "", "main2", ""},
		{"set elsewhere in a, unset in b", "main1", "main2", "", "main2"},
		{"each another name", "", "main1", "b2", "b2 main1"},
		{"each another name to one object", "", "main1", "b1", "b1 main1"},
		{"a new name for an old one", "main1", "name1", "main1", "name1"},
		{"a new name for an old one in both otherwise", "main1", "name1", "other1", "name1 other1"},
		{"exchanged in a", "a1 b2", "a2 b1", "a1 b2", "a2 b1"},
		{"exchanged in b", "a1 b2", "a1 b2", "a2 b1", "a2 b1"},
		{"all at once", "a1 b1 c1 d1 e1 f1 g1", "a1 b2 c2 d2 f2 h2", "a3 b1 c2 d3 e3 g1 i4", "a3 b2 c2 d2 f2 h2 i4"},
		{"names that begin alike", "a1 aa2 aaa3", "a4 aa2 aaa3", "a1 aa2 aaa4", "a4 aa2 aaa4"},
	} {
		t.Run(c.what, func(t *testing.T) {
			wantLeads(t, leads(c.base), leads(c.a), leads(c.b), leads(c.want))
		})
	}
}

// The same names at other places of the head are the same roots.
func TestRootsAtOtherPlaces(t *testing.T) {
	b := laid(t, 400, four(), apart)
	want := stood(t, 400, four().led(leads("a1 main2")...))
	base := rooted(rooted(b, 0, lead{"main", 2}), 1, lead{"a", 1})
	for i := range 8 {
		for k := range 8 {
			if i == k {
				continue
			}
			other := rooted(rooted(b, i, lead{"main", 2}), k, lead{"a", 1})
			wantThree(t, base, other, base, want)
			wantThree(t, other, base, base, want)
			wantThree(t, base, base, other, want)
			changed := rooted(rooted(b, i, lead{"main", 3}), k, lead{"a", 1})
			wantThree(t, base, other, changed, stood(t, 400, four().led(leads("a1 main3")...)))
			wantThree(t, base, changed, other, stood(t, 400, four().led(leads("a1 main3")...)))
		}
	}
}

func TestRootsStandByName(t *testing.T) {
	sorted := leads("aeightle1 bbbbbbb2 cccccc3 ddddd4 eeee1 fff2 gg3 h4")
	turned := slices.Clone(sorted)
	slices.Reverse(turned)
	wantLeads(t, turned, turned, turned, sorted)
	wantLeads(t, nil, turned[:4], turned[4:], sorted)
	wantLeads(t, nil, turned[5:], turned[:5], sorted)
	wantLeads(t, leads("z1 a1 b1"), leads("aa1 z1 a1"), leads("a1 zz1 ab1 z1 b1 y1"), leads("a1 aa1 ab1 y1 z1 zz1"))
}

// A root whose object the other one has dropped is left out; it does not lead back to where it led once.
func TestRootsThatLeadToNoObject(t *testing.T) {
	for _, c := range []struct {
		what             string
		base, a, b, want world
	}{
		{"new in b, dropped in a", four(), but(2), four().led(leads("main2")...), but(2)},
		{"new in a, dropped in b", four(), four().led(leads("main2")...), but(2), but(2)},
		{"elsewhere in b, dropped in a", four().led(leads("main1")...), but(2).led(leads("main1")...), four().led(leads("main2")...), but(2)},
		{"elsewhere in a, dropped in b", four().led(leads("main1")...), four().led(leads("main2")...), but(2).led(leads("main1")...), but(2)},
		{"in both otherwise, dropped in b", four().led(leads("main1")...), four().led(leads("main2")...), but(2).led(leads("main3")...), but(2)},
		{"others stay", four().led(leads("z1")...), but(2).led(leads("z1 a3")...), four().led(leads("z1 main2 b4 c2")...), but(2).led(leads("a3 b4 z1")...)},
		{"unset and dropped in a", four().led(leads("main2")...), but(2), four().led(leads("main2")...), but(2)},
		{"unset and dropped in b", four().led(leads("main2")...), four().led(leads("main2")...), but(2), but(2)},
		{"unset and dropped in a, another name in b", four().led(leads("main2")...), but(2), four().led(leads("main2 name2")...), but(2)},
	} {
		t.Run(c.what, func(t *testing.T) { wantMerged(t, 400, c.base, c.a, c.b, c.want) })
	}
}

// Where one dropped what the other changed, and a root leads there, what becomes of the object decides.
func TestRootsOfWhatIsTold(t *testing.T) {
	changed := of(thing{1, 1, "one"}, thing{2, 9, "two"}, thing{3, 3, "three"}, thing{4, 4, "four"})
	base := four()
	wantMerged(t, 400, base, but(2), changed.led(leads("main2")...), but(2), 2)
	wantMerged(t, 400, base, changed.led(leads("main2")...), but(2), changed.led(leads("main2")...), 2)
	wantMerged(t, 400, base.led(leads("main2")...), changed.led(leads("main2")...), but(2), changed, 2) // unset in b alone
	wantMerged(t, 400, base, changed, but(2).led(leads("main1")...), changed.led(leads("main1")...), 2)
}

// A root that leads to an object which is another one now leads there all the same.
func TestRootsLeadByHandle(t *testing.T) {
	changed := of(thing{1, 1, "one"}, thing{2, 9, "other"}, thing{3, 3, "three"}, thing{4, 4, "four"})
	wantMerged(t, 400, four().led(leads("main2")...), changed.led(leads("main2")...), four().led(leads("main2")...), changed.led(leads("main2")...))
	wantMerged(t, 400, four(), changed, four().led(leads("main2")...), changed.led(leads("main2")...))
	// Both made an object of the handle, and b's root leads to a's.
	wantMerged(t, 400, but(2), changed, four().led(leads("main2")...), changed.led(leads("main2")...), 2)
}

// Roots are not told, whatever becomes of them, nor do those that are told change it.
func TestRootsAreNotTold(t *testing.T) {
	base := four().led(leads("a1 b1 c1")...)
	a := four().led(leads("a2 b2 d1")...)
	b := four().led(leads("a3 c2 d2")...)
	wantMerged(t, 400, base, a, b, four().led(leads("a2 b2 d1")...))
	// What both made otherwise is the object 4 alone.
	a.things, b.things = append(but(4).things, thing{4, 4, "a"}), append(but(4).things, thing{4, 4, "b"})
	wantMerged(t, 400, base, a, b, world{things: a.things, leads: leads("a2 b2 d1")}, 4)
}
