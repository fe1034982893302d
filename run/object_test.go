package run_test

import (
	"slices"
	"strconv"
	"strings"
	"testing"
)

// The least handle that is none; all bytes 0.
func TestNew(t *testing.T) {
	wantKept(t, []string{"new 1 0", "1", "new 7 15", "2", "new 728 3", "3"},
		"read 1 0 1", "00",
		"read 2 0 7", "00000000000000",
		"read 3 0 728", strings.Repeat("00", 728),
		"stat", "3 736 0 0 0",
		"free 2", "ok",
		"new 7 1", "2",
	)
	wantKept(t, some(), "new 4 4", "2", "new 4 4", "4", "new 4 4", "5", "free 3", "ok", "new 4 4", "3", "stat", "5 21 715 715 1")
}

// First Len, then the tag: where these are taken for each other, another one is told.
func TestNewLenAndTag(t *testing.T) {
	wantKept(t, nil,
		"new 16 15", "1", "new 15 16", "ErrRange", "new 1 0", "2", "new 0 1", "ErrRange", "new -1 1", "ErrRange", "new 1 -1", "ErrRange",
		"new 1000 0", "ErrFull", "new 1001 0", "ErrRange", "new 1000 16", "ErrRange", "new 737 0", "ErrFull", "new 719 0", "3",
		"new 1 0", "ErrFull", "new 0 0", "ErrRange", "new 1 16", "ErrRange",
	)
}

// What was freed there is 0 then.
func TestNewOfWhatWasUsed(t *testing.T) {
	wantKept(t, []string{"new 9 1", "1", "write 1 0 ffffffffffffffffff", "ok"}, "free 1", "ok", "new 8 1", "1", "read 1 0 8", "0000000000000000")
}

func TestNewWithoutRoom(t *testing.T) {
	wantKept(t, []string{"new 700 0", "1", "new 20 0", "2", "new 16 0", "3", "free 2", "ok"},
		"new 21 0", "ErrFull", "stat", "2 716 20 20 1", "new 20 0", "2", "stat", "3 736 0 0 0", "new 1 0", "ErrFull")
}

// There are 40 handles.
func TestNewWithoutHandle(t *testing.T) {
	wantKept(t, news(40, 1, 9), "new 1 0", "ErrFull", "new 1 16", "ErrRange", "stat", "40 40 696 696 1", "free 17", "ok", "new 1 0", "17", "new 1 0", "ErrFull")
}

func TestFree(t *testing.T) {
	wantKept(t, some(),
		"free 3", "ok", "free 3", "ErrNone", "free 2", "ErrNone", "free 40", "ErrNone", "free 41", "ErrRange", "free 0", "ErrRange", "free -1", "ErrRange",
		"read 3 0 0", "ErrNone", "free 1", "ErrClash", "read 1 0 5", "0300070809", "unset main", "ok", "free 1", "ok", "free 1", "ErrNone", "stat", "0 0 736 736 1")
	wantTalk(t, "free 1", "ErrNone", "free 0", "ErrRange")
}

// Handle, at, HEX.
func TestWrite(t *testing.T) {
	wantKept(t, some(),
		"write 3 1 ab", "ok", "read 3 0 10", "10ab32435465768798a9",
		"write 1 3 cdef", "ok", "read 1 0 5", "030007cdef",
		"write 3 9 00", "ok", "read 3 0 10", "10ab3243546576879800",
		"write 3 0 00112233445566778899", "ok", "read 3 0 10", "00112233445566778899",
		"write 3 10 ", "ok", "write 3 0 ", "ok", "read 3 0 10", "00112233445566778899",
		"read 1 0 5", "030007cdef", "stat", "2 15 721 701 2",
	)
}

func TestWriteWrong(t *testing.T) {
	wantKept(t, some(), slices.Concat([]string{
		"write 0 0 00", "ErrRange",
		"write 41 0 00", "ErrRange",
		"write -3 -1 00", "ErrRange",
		"write 2 0 00", "ErrNone",
		"write 40 99 00", "ErrNone",
		"write 1 5 00", "ErrShape",
		"write 1 4 0000", "ErrShape",
		"write 1 -1 00", "ErrShape",
		"write 1 0 000000000000", "ErrShape",
		"write 1 999999999 00", "ErrShape",
		"write 1 6 ", "ErrShape",
		"write 1 -1 ", "ErrShape",
	}, wantSome())...)
}

// Nothing, all, a part.
func TestRead(t *testing.T) {
	wantKept(t, some(),
		"read 1 0 0", "", "read 1 3 0", "", "read 1 5 0", "",
		"read 1 0 5", "0300070809", "read 1 0 1", "03", "read 1 4 1", "09", "read 1 1 3", "000708",
		"read 3 2 7", "32435465768798", "read 3 0 9", "102132435465768798", "read 3 1 9", "2132435465768798a9",
	)
}

func TestReadWrong(t *testing.T) {
	wantKept(t, some(), slices.Concat([]string{
		"read 0 0 0", "ErrRange",
		"read 41 0 1", "ErrRange",
		"read -1 -1 -1", "ErrRange",
		"read 2 0 0", "ErrNone",
		"read 40 -1 -1", "ErrNone",
		"read 1 0 6", "ErrShape",
		"read 1 5 1", "ErrShape",
		"read 1 6 0", "ErrShape",
		"read 1 -1 1", "ErrShape",
		"read 1 -1 0", "ErrShape",
		"read 1 0 -1", "ErrShape",
		"read 1 3 -1", "ErrShape",
		"read 1 999999999 999999999", "ErrShape",
		"read 1 -999999999 999999999", "ErrShape",
	}, wantSome())...)
}

// Each part of an object is read as what was written there.
func TestReadOfEachPart(t *testing.T) {
	const all = "102132435465768798a9"
	for at := range 11 {
		pairs := some()
		for n := range 11 {
			want := "ErrShape"
			if at+n <= 10 {
				want = all[2*at:][:2*n]
			}
			pairs = append(pairs, "read 3 "+strconv.Itoa(at)+" "+strconv.Itoa(n), want)
		}
		wantTalk(t, pairs...)
	}
}
