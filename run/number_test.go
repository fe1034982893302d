package run_test

import (
	"strconv"
	"strings"
	"testing"
)

// noNumbers are words that are none.
var noNumbers = []string{
	"00", "01", "007", "0000000000", "000000001", "-0", "-00", "-01", "-", "--1", "---", "+", "+1", "+0", "-+1", "+-1", "1-", "1-1", "1+1",
	"1000000000", "-1000000000", "1234567890", "9999999999", "-9999999999", "2147483648", "4294967297", "9223372036854775807", "-9223372036854775808",
	"9223372036854775808", "-4611686018427387904", "18446744073709551617", "100000000000000000000000000001", "-100000000000000000000000000001",
	"0000000001", "01234567890", "-0999999999", "x", "1x", "x1", "0x1", "0b1", "0o1", "1e1", "1.0", "1.", ".1", "1_0", "1,0", "a", "ff", "N", "inf", "NaN",
	"\u0661", "\uff11", "\u22121", "\u00b9", "1\x00", "\x001", "\t1", "1\t", "1\r", "'1'", "\"1\"", "(1)", "~1", "!1", "1%", "\xb1", "",
}

// A number that can't be read is bad in each place where one stands, whatever is right or wrong beside it.
func TestNoNumbers(t *testing.T) {
	for _, form := range []string{
		"new ? 1", "new 5 ?", "new 0 ?", "new ? 99", "new ? ?", "free ?", "write ? 0 00", "write 1 ? 00", "write 9 ? 00", "write ? ? z", "read ? 0 1", "read 1 ? 1", "read 1 0 ?",
		"read 99 99 ?", "set a ?", "set A ?", "set ?? ?", "cut ?",
	} {
		lines := []string{}
		for _, word := range noNumbers {
			lines = append(lines, strings.ReplaceAll(form, "?", word))
		}
		for len(lines) > 0 {
			n := min(len(lines), 20)
			wantTalk(t, append([]string{"new 9 1", "1"}, append(same("bad", lines[:n]...), "stat", "1 9 727 727 1", "read 1 0 9", "000000000000000000")...)...)
			lines = lines[n:]
		}
	}
}

// What comes of a number that can be read the heap tells.
func TestNumbers(t *testing.T) {
	for _, word := range []string{"0", "-1", "-9", "41", "100", "-10", "999999999", "-999999999", "123456789", "-123456789", "100000000", "-100000000"} {
		wantKept(t, []string{"new 9 1", "1"},
			"free "+word, "ErrRange",
			"write "+word+" 0 00", "ErrRange",
			"read "+word+" 0 1", "ErrRange",
			"set a "+word, "ErrRange",
			"stat", "1 9 727 727 1",
		)
	}
	for _, word := range []string{"-1", "-9", "10", "11", "999999999", "-999999999", "123456789", "-100000000"} {
		wantKept(t, []string{"new 9 1", "1"},
			"write 1 "+word+" 00", "ErrShape",
			"read 1 "+word+" 1", "ErrShape",
			"read 1 0 "+word, "ErrShape",
			"read 1 9 0", "",
			"read 1 "+word+" "+word, "ErrShape",
		)
	}
	for _, word := range []string{"0", "-1", "1001", "999999999", "-999999999", "-1000"} {
		wantKept(t, nil, "new "+word+" 0", "ErrRange", "stat", "0 0 736 736 1")
	}
	for _, word := range []string{"-1", "16", "17", "256", "999999999", "-999999999"} {
		wantKept(t, nil, "new 1 "+word, "ErrRange", "stat", "0 0 736 736 1")
	}
	for _, word := range []string{"0", "-1", "-9", "1", "9", "10", "999999999", "-999999999"} {
		wantTalk(t, "cut "+word, "ok", "cut -1", "ok", "new 1 1", "1", "commit", "ok")
	}
}

// All numbers of objects and of their bytes are read as they are.
func TestNumbersOneByOne(t *testing.T) {
	for n := range 41 {
		pairs := news(n, 3, 0)
		for _, i := range []int{n - 1, n, n + 1, 10, 19, 20} {
			want := "ErrNone"
			switch {
			case i < 1 || i > 40:
				want = "ErrRange"
			case i <= n:
				want = "000000"
			}
			pairs = append(pairs, "read "+strconv.Itoa(i)+" 0 3", want)
		}
		wantKept(t, pairs)
	}
	for n := range 30 {
		wantTalk(t, "new 30 0", "1", "write 1 "+strconv.Itoa(n)+" ab", "ok", "read 1 0 30", strings.Repeat("00", n)+"ab"+strings.Repeat("00", 29-n),
			"read 1 "+strconv.Itoa(n)+" "+strconv.Itoa(30-n), "ab"+strings.Repeat("00", 29-n))
	}
}

// All bytes, one by one and at once, are written and read as the same digits.
func TestHexOfAllBytes(t *testing.T) {
	const digits = "0123456789abcdef"
	all := ""
	for _, high := range digits {
		pairs := []string{"new 1 0", "1"}
		for _, low := range digits {
			two := string(high) + string(low)
			pairs = append(pairs, "write 1 0 "+two, "ok", "read 1 0 1", two)
			all += two
		}
		wantTalk(t, pairs...)
	}
	wantKept(t, []string{"new 256 0", "1", "write 1 0 " + all, "ok"}, "read 1 0 256", all, "read 1 16 3", "101112", "read 1 255 1", "ff")
}

// An odd number of digits, and each sign that is no digit, in either place.
func TestNoHex(t *testing.T) {
	odd := []string{"0", "f", "000", "abc", "00000", "0123456789abcde"}
	others := []string{"FF", "A0", "0A", "aF", "Fa", "0x00", "0x", "x0", "-1", "+1", "--", "gg", "\u00e9", "\u0660", "00-0", "00\t", "\t0", "0\r", "\x00\x00", "''"}
	for i := range 256 {
		c := string([]byte{byte(i)})
		if c != "\n" && c != " " && !strings.Contains("0123456789abcdef", c) {
			others = append(others, c+"0", "0"+c, c+c, "0000"+c+"0")
		}
	}
	words := append(odd, others...)
	for len(words) > 0 {
		n := min(len(words), 60)
		pairs := []string{"new 9 1", "1"}
		for _, word := range words[:n] {
			pairs = append(pairs, "write 1 0 "+word, "bad")
		}
		wantTalk(t, append(pairs, "read 1 0 9", "000000000000000000")...)
		words = words[n:]
	}
	wantTalk(t, "write 1 0 0", "bad", "write 0 0 0", "bad", "write 1 99 zz", "bad") // ahead of what the heap would tell
}

// Any word is a name, and whether it is a right one its row tells.
func TestNames(t *testing.T) {
	right := []string{"a", "z", "main", "abcdefgh", "zzzzzzzz", "new", "commit", "ok", "bad", "ff"}
	for _, name := range right {
		wantKept(t, []string{"new 1 0", "1"},
			"get "+name, "ErrNone", "unset "+name, "ErrNone", "set "+name+" 1", "new", "get "+name, "1", "set "+name+" 1", "old", "unset "+name, "ok", "get "+name, "ErrNone")
	}
	wrong := []string{
		"", "A", "Main", "aB", "abcdefghi", "ninelette", "0", "1", "-1", "a1", "1a", "a-b", "a_b", "a.b", "-", "_", ".", "\t", "a\t", "\ta", "a\r", "a\x00", "\x00", "\x00a",
		"\u00e9", "e\u0301", "\u0430", "\xff", "a\xff", "`", "{", "@", "[", "'a'", "\"a\"", "aaaaaaa\x00", strings.Repeat("a", 200),
	}
	for _, name := range wrong {
		wantKept(t, []string{"new 1 0", "1", "set a 1", "new"},
			"get "+name, "ErrSyntax", "unset "+name, "ErrSyntax", "set "+name+" 1", "ErrSyntax", "set "+name+" 2", "ErrSyntax", "set "+name+" 0", "ErrSyntax",
			"get a", "1", "stat", "1 1 735 735 1")
	}
	wantBad(t, "get a b", "unset a b", "set a b 1", "get  a", "unset  a")
}
