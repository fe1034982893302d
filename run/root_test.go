package run_test

import "testing"

// eight gives pairs by which there are 8 roots, a to h; a leads to 1, all others to 2.
func eight() []string {
	pairs := []string{"new 3 0", "1", "new 4 15", "2", "set a 1", "new"}
	for _, name := range "bcdefgh" {
		pairs = append(pairs, "set "+string(name)+" 2", "new")
	}
	return pairs
}

// New where the name led nowhere, old where it led somewhere, there or elsewhere.
func TestSet(t *testing.T) {
	wantKept(t, some(),
		"set main 1", "old", "get main", "1", "set main 3", "old", "get main", "3", "set other 3", "new", "get other", "3", "set other 1", "old", "get other", "1",
		"get main", "3", "unset main", "ok", "set main 3", "new", "set main 3", "old",
	)
}

func TestSetWrong(t *testing.T) {
	wantKept(t, some(),
		"set A 1", "ErrSyntax", "set A 0", "ErrSyntax", "set  2", "ErrSyntax", "set main 0", "ErrRange", "set main 41", "ErrRange", "set main -1", "ErrRange",
		"set main 2", "ErrNone", "set other 2", "ErrNone", "set other 40", "ErrNone", "get main", "1", "get other", "ErrNone",
	)
}

// There are 8 places.
func TestSetWithoutPlace(t *testing.T) {
	wantKept(t, eight(),
		"set i 1", "ErrFull", "set i 0", "ErrRange", "set i 3", "ErrNone", "set I 1", "ErrSyntax", "set h 1", "old", "get h", "1", "get i", "ErrNone",
		"unset d", "ok", "set i 1", "new", "set d 1", "ErrFull", "get i", "1", "get d", "ErrNone", "get a", "1", "get b", "2",
	)
}

func TestUnset(t *testing.T) {
	wantKept(t, some(),
		"unset other", "ErrNone", "unset Main", "ErrSyntax", "unset ", "ErrSyntax", "unset mainmainm", "ErrSyntax", "get main", "1",
		"unset main", "ok", "unset main", "ErrNone", "get main", "ErrNone", "read 1 0 1", "03", "free 1", "ok",
	)
	wantTalk(t, "unset main", "ErrNone")
}

// Of any tag.
func TestGet(t *testing.T) {
	wantKept(t, nil,
		"new 1 0", "1", "new 1 1", "2", "new 1 7", "3", "new 1 15", "4", "set a 1", "new", "set b 2", "new", "set c 3", "new", "set d 4", "new",
		"get a", "1", "get b", "2", "get c", "3", "get d", "4", "get e", "ErrNone", "get E", "ErrSyntax", "get ", "ErrSyntax", "get aa", "ErrNone",
	)
	for tag := range 16 {
		pairs := news(40, 1, tag)
		wantKept(t, pairs, "set z 40", "new", "get z", "40", "set z 9", "old", "get z", "9")
	}
	wantTalk(t, "get main", "ErrNone")
}

// An object to which a root leads is not freed, however many of them lead there.
func TestSetAndFree(t *testing.T) {
	wantKept(t, eight(), "free 1", "ErrClash", "free 2", "ErrClash", "set a 2", "old", "free 1", "ok", "get a", "2", "free 2", "ErrClash", "set a 1", "ErrNone", "get a", "2")
}
