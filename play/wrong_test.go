package play_test

import (
	"testing"

	"vaultkeel/api"
	"vaultkeel/play"
	"vaultkeel/store"
)

func TestDoOfWhatIsNone(t *testing.T) {
	x := some(t)
	x.done(write(1, 3, []byte{1, 2}), replaced(x.now, 291, 1, 2))
	for _, what := range append([]int{0, -1, -6, 10, 11, 16, 100, 256 + 6, -256 + 6, 1<<32 + 6, 1<<16 + 7}, farNumbers...) {
		x.refuse(api.Op{What: what}, api.ErrRange)
		x.refuse(api.Op{What: what, Handle: 1, At: 3, Len: 5, Name: "main", Body: []byte{7}}, api.ErrRange)
	}
	x.commit()
}

func TestDoAllocRefused(t *testing.T) {
	for _, x := range []*bench{some(t), wide(t), created(t, 57)} {
		for _, n := range append([]int{0, -1, 1001, 1002}, farNumbers...) {
			x.refuse(alloc(n, 0), api.ErrRange)
			x.refuse(alloc(n, 16), api.ErrRange)
		}
		for _, tag := range append([]int{-1, 16, 17}, farNumbers...) {
			x.refuse(alloc(1, tag), api.ErrRange)
			x.refuse(alloc(1000, tag), api.ErrRange)
		}
	}
	x := some(t)
	x.refuse(alloc(33, 0), api.ErrFull) // 20 and 32 bytes are free
	x.refuse(alloc(1000, 15), api.ErrFull)
	x = created(t, 57) // nothing is behind Head
	x.refuse(alloc(1, 0), api.ErrFull)
	x = wide(t)
	x.refuse(alloc(761, 0), api.ErrFull)
	x.done(alloc(760, 0), object(x.now, 2, 1, 1288, 760))
}

// noHandles are numbers that no object may have.
var noHandles = append([]int{0, -1, 41, 42, 257, -255}, farNumbers...)

func TestDoFreeRefused(t *testing.T) {
	x := some(t)
	for _, handle := range noHandles {
		x.refuse(free(handle), api.ErrRange)
	}
	for _, handle := range []int{2, 4, 39, 40} {
		x.refuse(free(handle), api.ErrNone)
	}
	x.refuse(free(1), api.ErrClash)
	x.refuse(free(3), api.ErrClash)
}

func TestDoWriteRefused(t *testing.T) {
	x := some(t)
	for _, handle := range noHandles {
		x.refuse(write(handle, 0, []byte{1}), api.ErrRange)
		x.refuse(write(handle, -1, nil), api.ErrRange)
	}
	for _, handle := range []int{2, 4, 39, 40} {
		x.refuse(write(handle, 0, []byte{1}), api.ErrNone)
		x.refuse(write(handle, -1, nil), api.ErrNone)
	}
	for _, at := range append([]int{-1, 13, 14}, farNumbers...) {
		x.refuse(write(3, at, []byte{1}), api.ErrShape)
		x.refuse(write(3, at, nil), api.ErrShape)
	}
	x.refuse(write(3, 0, counted(1, 13)), api.ErrShape)
	x.refuse(write(3, 11, counted(1, 2)), api.ErrShape)
	x.refuse(write(3, 12, counted(1, 1)), api.ErrShape)
	x.refuse(write(1, 0, counted(1, 7000)), api.ErrShape)
}

// noNames are texts that no root may have.
var noNames = []string{"", "ninelette", "A", "a b", "a1", "mainA", "\x00", "main\x00", "é", "a/", "`", "{"}

func TestDoSetRefused(t *testing.T) {
	x := some(t)
	for _, name := range noNames {
		x.refuse(set(name, 1), api.ErrSyntax)
		x.refuse(set(name, 41), api.ErrSyntax)
		x.refuse(set(name, 2), api.ErrSyntax)
	}
	for _, handle := range noHandles {
		x.refuse(set("main", handle), api.ErrRange)
		x.refuse(set("new", handle), api.ErrRange)
	}
	for _, handle := range []int{2, 4, 39, 40} {
		x.refuse(set("main", handle), api.ErrNone)
		x.refuse(set("new", handle), api.ErrNone)
	}
	for i, name := range []string{"a", "b", "c", "d", "e", "f"} {
		x.done(set(name, 1), rooted(x.now, 2+i, name, 1))
	}
	x.refuse(set("g", 3), api.ErrFull)
	x.refuse(set("g", 2), api.ErrNone)
	x.refuse(set("g", 0), api.ErrRange)
	x.refuse(set("G", 0), api.ErrSyntax)
}

func TestDoUnsetRefused(t *testing.T) {
	x := some(t)
	for _, name := range noNames {
		x.refuse(unset(name), api.ErrSyntax)
	}
	for _, name := range []string{"a", "mai", "mains", "eightle", "zzzzzzzz"} {
		x.refuse(unset(name), api.ErrNone)
	}
}

// With the power gone just Commit is another one: all else is done in memory.
func TestDoWithThePowerGone(t *testing.T) {
	x := some(t)
	x.pull()
	x.refuse(commit, api.ErrLost)
	x.done(alloc(5, 1), object(replaced(x.now, 320, make([]byte, 5)...), 2, 2, 320, 5))
	x.refuse(alloc(0, 1), api.ErrRange)
	x.done(write(2, 1, []byte{9}), replaced(x.now, 321, 9))
	x.refuse(write(2, 5, []byte{9}), api.ErrShape)
	x.done(set("b", 2), rooted(x.now, 2, "b", 2))
	x.refuse(free(2), api.ErrClash)
	x.refuse(commit, api.ErrLost)
	x.done(unset("b"), rooted(x.now, 2, "", 0))
	x.refuse(unset("b"), api.ErrNone)
	x.done(sweep, object(x.now, 2, 0, 0, 0))
	x.done(pack, object(replaced(x.now, 320, x.now[340:352]...), 3, 16, 320, 12))
	x.refuse(api.Op{What: 10}, api.ErrRange)
	x.refuse(commit, api.ErrLost)
	x.abort()
	x.done(unset("main"), rooted(x.now, 0, "", 0))
	x.done(free(1), object(x.now, 1, 0, 0, 0))
	x.crash()
	x.want("the power coming back")
	x.commit()
}

func TestDoCommitOfTooManyWithThePowerGone(t *testing.T) {
	x := wide(t)
	x.done(write(1, 0, counted(2, 24*32)), replaced(x.now, 288, counted(2, 24*32)...))
	x.pull()
	x.refuse(commit, api.ErrFull)
	x.abort()
	x.refuse(commit, api.ErrLost)
	x.crash()
	x.commit()
}

// The power goes at each step of a Commit: ErrLost, and what is told is as it was ahead.
func TestDoCommitWithThePowerGoneInIt(t *testing.T) {
	for k := range 2*2 + 4 {
		x := some(t)
		x.done(write(3, 0, counted(9, 12)), replaced(x.now, 340, counted(9, 12)...))
		x.done(set("b", 1), rooted(x.now, 2, "b", 1))
		for _, s := range x.sides {
			s.device.Fail(k)
		}
		x.refuse(commit, api.ErrLost)
		x.abort()
		x.refuse(commit, api.ErrLost)
	}
	x := some(t)
	x.done(write(3, 0, counted(9, 12)), replaced(x.now, 340, counted(9, 12)...))
	for _, s := range x.sides {
		s.device.Fail(2*1 + 4)
	}
	x.commit()
	x.refuse(api.Op{}, api.ErrRange)
}

// There is no stamp behind the greatest: chapter 3's error, ahead of all writing.
func TestDoCommitAtTheGreatestStamp(t *testing.T) {
	d := made(t, 60)
	mark := make([]byte, 32)
	for _, i := range []int{0, 1, 2, 3, 28, 29, 30, 31} {
		mark[i] = 255
	}
	wantTold(t, "Write", d.Write(1, mark), api.OK)
	wantTold(t, "Flush", d.Flush(), api.OK)
	s, err := store.Open(d)
	wantTold(t, "Open", err, api.OK)
	b := make([]byte, 12*32)
	x := &bench{t: t, sides: []side{{d, s, s.Heap(), api.Op{}}}, now: b, kept: b, stamp: 1<<32 - 1}
	x.commit()
	x.done(alloc(3, 1), object(x.now, 1, 2, 288, 3))
	x.refuse(commit, api.ErrRange)
	x.abort()
	x.commit()
}

// Whatever an op has, it ends, and says what it says of a Store with nothing.
func TestDoOfFarNumbers(t *testing.T) {
	for _, a := range farNumbers {
		for _, b := range farNumbers {
			for what := -1; what <= 11; what++ {
				d := made(t, 60)
				s, err := store.Create(d)
				wantTold(t, "Create", err, api.OK)
				err = play.Do(s, api.Op{What: what, Handle: a, At: b, Len: b, Name: "a"})
				want := api.ErrRange
				switch what {
				case 5:
					want = api.ErrNone
				case 6, 7, 8, 9:
					want = api.OK
				}
				wantTold(t, "Do", err, want)
			}
		}
	}
}
