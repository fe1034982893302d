package num_test

import (
	"bytes"
	"math"
	"strings"
	"testing"

	"vaultkeel/api"
	"vaultkeel/num"
	"vaultkeel/plain"
)

// wantPut asks for bytes without an error, or for an error and nothing beside it.
func wantPut(t *testing.T, b []byte, at, n, size int, want []byte, told api.Errno) {
	t.Helper()
	before := bytes.Clone(b)
	got, err := num.Put(b, at, n, size)
	if plain.Told(err) != told || !bytes.Equal(got, want) {
		t.Errorf("Put(%v, %d, %d, %d): got %v, %v; want %v, %v", before, at, n, size, got, err, want, told)
	}
	if !bytes.Equal(b, before) {
		t.Errorf("Put(%v, %d, %d, %d) wrote into b: %v", before, at, n, size, b)
	}
}

func wantGet(t *testing.T, b []byte, at, size, want int, told api.Errno) {
	t.Helper()
	before := bytes.Clone(b)
	got, err := num.Get(b, at, size)
	if plain.Told(err) != told || got != want {
		t.Errorf("Get(%v, %d, %d): got %d, %v; want %d, %v", before, at, size, got, err, want, told)
	}
	if !bytes.Equal(b, before) {
		t.Errorf("Get(%v, %d, %d) wrote into b: %v", before, at, size, b)
	}
}

func wantPutName(t *testing.T, s string, want []byte, told api.Errno) {
	t.Helper()
	got, err := num.PutName(s)
	if plain.Told(err) != told || !bytes.Equal(got, want) {
		t.Errorf("PutName(%q): got %v, %v; want %v, %v", s, got, err, want, told)
	}
}

func wantGetName(t *testing.T, b []byte, want string, told api.Errno) {
	t.Helper()
	before := bytes.Clone(b)
	got, err := num.GetName(b)
	if plain.Told(err) != told || got != want {
		t.Errorf("GetName(%v): got %q, %v; want %q, %v", before, got, err, want, told)
	}
	if !bytes.Equal(b, before) {
		t.Errorf("GetName(%v) wrote into b: %v", before, b)
	}
}

// most that so many bytes have, by size.
var most = []int{0, 255, 65_535, 16_777_215, 4_294_967_295}

func TestPutEachSize(t *testing.T) {
	b := []byte{9, 8, 7, 6, 5, 4}
	wantPut(t, b, 1, 0x12, 1, []byte{9, 0x12, 7, 6, 5, 4}, api.OK)
	wantPut(t, b, 1, 0x1234, 2, []byte{9, 0x34, 0x12, 6, 5, 4}, api.OK)
	wantPut(t, b, 1, 0x123456, 3, []byte{9, 0x56, 0x34, 0x12, 5, 4}, api.OK)
	wantPut(t, b, 1, 0x12345678, 4, []byte{9, 0x78, 0x56, 0x34, 0x12, 4}, api.OK)
}

func TestGetEachSize(t *testing.T) {
	b := []byte{9, 0x78, 0x56, 0x34, 0x12, 4}
	wantGet(t, b, 1, 1, 0x78, api.OK)
	wantGet(t, b, 1, 2, 0x5678, api.OK)
	wantGet(t, b, 1, 3, 0x345678, api.OK)
	wantGet(t, b, 1, 4, 0x12345678, api.OK)
}

func TestNumberBounds(t *testing.T) {
	for size := 1; size <= 4; size++ {
		full := bytes.Repeat([]byte{255}, size)
		zero := make([]byte, size)
		wantPut(t, full, 0, 0, size, zero, api.OK)
		wantPut(t, zero, 0, most[size], size, full, api.OK)
		wantGet(t, zero, 0, size, 0, api.OK)
		wantGet(t, full, 0, size, most[size], api.OK)
		for _, n := range []int{most[size] + 1, most[size] + 2, -1, -256, 1 << 33, math.MaxInt, math.MinInt} {
			wantPut(t, zero, 0, n, size, nil, api.ErrRange)
		}
	}
}

func TestPlaces(t *testing.T) {
	for size := 1; size <= 4; size++ {
		b := bytes.Repeat([]byte{7}, 9)
		last := len(b) - size
		for _, at := range []int{0, 1, last - 1, last} {
			want := bytes.Clone(b)
			want[at] = 1
			clear(want[at+1 : at+size])
			wantPut(t, b, at, 1, size, want, api.OK)
			wantGet(t, want, at, size, 1, api.OK)
		}
		for _, at := range []int{last + 1, len(b), len(b) + 1, -1, -size, 1 << 32, math.MaxInt, math.MaxInt - 1, math.MaxInt - 2, math.MaxInt - 3, math.MinInt, math.MinInt + 1} {
			wantPut(t, b, at, 1, size, nil, api.ErrShape)
			wantGet(t, b, at, size, 0, api.ErrShape)
		}
	}
}

func TestShortLists(t *testing.T) {
	for size := 1; size <= 4; size++ {
		for _, b := range [][]byte{nil, {}, make([]byte, size-1)} {
			wantPut(t, b, 0, 1, size, nil, api.ErrShape)
			wantGet(t, b, 0, size, 0, api.ErrShape)
			wantPut(t, b, -1, 1, size, nil, api.ErrShape)
			wantGet(t, b, -1, size, 0, api.ErrShape)
		}
	}
}

func TestSizes(t *testing.T) {
	b := make([]byte, 16)
	for _, size := range []int{0, 5, 6, 8, -1, -4, 1<<32 + 1, math.MaxInt, math.MinInt} {
		wantPut(t, b, 0, 0, size, nil, api.ErrRange)
		wantPut(t, b, 0, 1, size, nil, api.ErrRange)
		wantGet(t, b, 0, size, 0, api.ErrRange)
	}
}

// Where the number or the size is wrong, and the place too, ErrRange is named first.
func TestRangeComesAheadOfShape(t *testing.T) {
	b := []byte{1, 2, 3}
	for _, at := range []int{-1, 3, math.MaxInt, math.MinInt} {
		for _, size := range []int{0, 5, -1, math.MaxInt, math.MinInt} {
			wantPut(t, b, at, 1, size, nil, api.ErrRange)
			wantGet(t, b, at, size, 0, api.ErrRange)
		}
		for size := 1; size <= 4; size++ {
			wantPut(t, b, at, most[size]+1, size, nil, api.ErrRange)
			wantPut(t, b, at, -1, size, nil, api.ErrRange)
		}
	}
	wantPut(t, nil, 0, 256, 1, nil, api.ErrRange)
	wantGet(t, nil, 0, 5, 0, api.ErrRange)
}

func TestPutThenGet(t *testing.T) {
	b := bytes.Repeat([]byte{170}, 7)
	for size := 1; size <= 4; size++ {
		for at := 0; at+size <= len(b); at++ {
			for bit := 0; bit < 8*size; bit++ {
				n := 1 << bit
				out, err := num.Put(b, at, n, size)
				if err != nil {
					t.Fatalf("Put(%d, %d, %d): %v", at, n, size, err)
				}
				wantGet(t, out, at, size, n, api.OK)
			}
		}
	}
}

func TestPutSharesNothing(t *testing.T) {
	for size := 1; size <= 4; size++ {
		memory := bytes.Repeat([]byte{7}, 12)
		b := memory[2:8]
		out, err := num.Put(b, 1, 1, size)
		if err != nil || len(out) != len(b) {
			t.Fatalf("Put: got %v, %v", out, err)
		}
		whole := out[:cap(out)]
		for i := range whole {
			whole[i] = 99
		}
		if !bytes.Equal(memory, bytes.Repeat([]byte{7}, 12)) {
			t.Errorf("size %d: writing into the answer changed b: %v", size, memory)
		}
		again, _ := num.Put(b, 1, 1, size)
		kept := bytes.Clone(again)
		clear(memory)
		if !bytes.Equal(again, kept) {
			t.Errorf("size %d: writing into b changed the answer: %v", size, again)
		}
	}
}

func TestPutAnswersAnewEachTime(t *testing.T) {
	b := []byte{1, 2, 3}
	one, _ := num.Put(b, 0, 7, 1)
	two, _ := num.Put(b, 0, 7, 1)
	clear(one)
	if !bytes.Equal(two, []byte{7, 2, 3}) {
		t.Errorf("two answers share memory: %v", two)
	}
}

// What lies behind a list's length is neither read nor written.
func TestBehindTheLength(t *testing.T) {
	memory := []byte{1, 2, 3, 4, 5, 6, 7, 8, 'a', 'b'}
	wantPut(t, memory[:3], 1, 9, 3, nil, api.ErrShape)
	wantGet(t, memory[:3], 1, 3, 0, api.ErrShape)
	wantPut(t, memory[:3], 0, 9, 3, []byte{9, 0, 0}, api.OK)
	if got := num.Same(memory[:2], memory[:5]); got != 2 {
		t.Errorf("Same: got %d, want 2", got)
	}
	name := []byte("abcdefgh")
	wantGetName(t, name[:7], "", api.ErrShape)
	if !bytes.Equal(memory, []byte{1, 2, 3, 4, 5, 6, 7, 8, 'a', 'b'}) || string(name) != "abcdefgh" {
		t.Errorf("memory behind a list was written into: %v %v", memory, name)
	}
}

func TestNamesThereAndBack(t *testing.T) {
	for _, c := range []struct {
		name string
		want []byte
	}{
		{"a", []byte{97, 0, 0, 0, 0, 0, 0, 0}},
		{"z", []byte{122, 0, 0, 0, 0, 0, 0, 0}},
		{"main", []byte{109, 97, 105, 110, 0, 0, 0, 0}},
		{"sevenle", []byte{115, 101, 118, 101, 110, 108, 101, 0}},
		{"eightlet", []byte{101, 105, 103, 104, 116, 108, 101, 116}},
		{"zzzzzzzz", []byte{122, 122, 122, 122, 122, 122, 122, 122}},
	} {
		wantPutName(t, c.name, c.want, api.OK)
		wantGetName(t, c.want, c.name, api.OK)
	}
}

func TestNamesOfEachLetterAndLength(t *testing.T) {
	for c := byte('a'); c <= 'z'; c++ {
		for n := 1; n <= api.MaxName; n++ {
			name := strings.Repeat(string(rune(c)), n)
			want := make([]byte, 8)
			copy(want, name)
			wantPutName(t, name, want, api.OK)
			wantGetName(t, want, name, api.OK)
		}
	}
}

func TestNamesOfOtherLengths(t *testing.T) {
	wantPutName(t, "", nil, api.ErrSyntax)
	wantPutName(t, "ninelette", nil, api.ErrSyntax)
	wantPutName(t, strings.Repeat("a", 16), nil, api.ErrSyntax)
	wantPutName(t, strings.Repeat("a", 257), nil, api.ErrSyntax)
	wantPutName(t, strings.Repeat("a", 1<<16), nil, api.ErrSyntax)
}

// otherSign tells whether a byte is none of a to z.
func otherSign(c int) bool { return !strings.Contains("abcdefghijklmnopqrstuvwxyz", string(rune(c))) }

func TestOtherSignsInNames(t *testing.T) {
	for c := 0; c < 256; c++ {
		if !otherSign(c) {
			continue
		}
		wantPutName(t, string([]byte{byte(c)}), nil, api.ErrSyntax)
		for i := 0; i < api.MaxName; i++ {
			b := []byte("abcdefgh")
			b[i] = byte(c)
			wantPutName(t, string(b), nil, api.ErrSyntax)
			wantPutName(t, string(b[:i+1]), nil, api.ErrSyntax)
		}
	}
	for _, s := range []string{"a b", " a", "a ", "Main", "a1", "-", "é", "a\x00", "\x00", "a\n", "ａ"} {
		wantPutName(t, s, nil, api.ErrSyntax)
	}
}

func TestOtherSignsInNameBytes(t *testing.T) {
	for c := 1; c < 256; c++ {
		if !otherSign(c) {
			continue
		}
		for i := 0; i < api.MaxName; i++ {
			b := []byte("abcdefgh")
			b[i] = byte(c)
			wantGetName(t, b, "", api.ErrSyntax)
			clear(b[i+1:]) // the last sign ahead of the zeros
			wantGetName(t, b, "", api.ErrSyntax)
			b = []byte{'a', 0, 0, 0, 0, 0, 0, 0}
			b[i] = byte(c) // among the zeros
			wantGetName(t, b, "", api.ErrSyntax)
		}
	}
}

func TestZerosInNameBytes(t *testing.T) {
	wantGetName(t, make([]byte, 8), "", api.ErrSyntax)
	for i := 0; i < api.MaxName-1; i++ {
		b := []byte("abcdefgh")
		b[i] = 0
		wantGetName(t, b, "", api.ErrSyntax)
		b = make([]byte, 8)
		b[i+1] = 'a' // zeros ahead
		wantGetName(t, b, "", api.ErrSyntax)
	}
	wantGetName(t, []byte{'a', 0, 0, 0, 0, 0, 0, 'b'}, "", api.ErrSyntax)
	wantGetName(t, []byte{'a', 0, 'b', 0, 0, 0, 0, 0}, "", api.ErrSyntax)
}

func TestNameBytesThatAreNotEight(t *testing.T) {
	for _, n := range []int{0, 1, 2, 4, 7, 9, 16, 264} {
		wantGetName(t, make([]byte, n), "", api.ErrShape)
		wantGetName(t, bytes.Repeat([]byte{'a'}, n), "", api.ErrShape)
		wantGetName(t, bytes.Repeat([]byte{255}, n), "", api.ErrShape)
	}
	wantGetName(t, nil, "", api.ErrShape)
	wantGetName(t, []byte{'a', 0, 0, 0, 0, 0, 0, 0, 0}, "", api.ErrShape)
}

func TestNamesShareNothing(t *testing.T) {
	one, _ := num.PutName("main")
	two, _ := num.PutName("main")
	name, _ := num.GetName(one)
	for i := range one {
		one[i] = 'x'
	}
	if string(two) != "main\x00\x00\x00\x00" {
		t.Errorf("two answers of PutName share memory: %v", two)
	}
	if name != "main" {
		t.Errorf("the name changed with the bytes that it was got from: %q", name)
	}
}

func TestSame(t *testing.T) {
	for _, c := range []struct {
		a, b string
		want int
	}{
		{"", "", 0},
		{"", "a", 0},
		{"a", "a", 1},
		{"a", "b", 0},
		{"abcde", "abcde", 5},
		{"abc", "abcde", 3},
		{"abcde", "Xbcde", 0},
		{"abcde", "abXde", 2},
		{"abcde", "abcdX", 4},
		{"abc", "Xbcde", 0},
		{"abc", "aXcde", 1},
		{"abc", "abXde", 2},
		{"abcde", "aXcXe", 1},
		{"\x00\x00", "\x00\x00\x00", 2},
		{"\x00", "\x80", 0},
		{"\xff\x7f", "\xff\xff", 1},
	} {
		a, b := []byte(c.a), []byte(c.b)
		if got := num.Same(a, b); got != c.want {
			t.Errorf("Same(%q, %q): got %d, want %d", c.a, c.b, got, c.want)
		}
		if got := num.Same(b, a); got != c.want {
			t.Errorf("Same(%q, %q): got %d, want %d", c.b, c.a, got, c.want)
		}
		if string(a) != c.a || string(b) != c.b {
			t.Errorf("Same(%q, %q) wrote into a list: %q, %q", c.a, c.b, a, b)
		}
	}
	if got := num.Same(nil, nil) + num.Same(nil, []byte{1}) + num.Same([]byte{}, nil); got != 0 {
		t.Errorf("Same of nil: got %d, want 0", got)
	}
}

func TestSameAtEachPlace(t *testing.T) {
	for n := 1; n <= 300; n += 23 {
		a := bytes.Repeat([]byte{5}, n)
		for i := range a {
			b := bytes.Clone(a)
			b[i] = 6
			if got := num.Same(a, b); got != i {
				t.Fatalf("two lists of %d that differ at %d: got %d", n, i, got)
			}
		}
		if got := num.Same(a, bytes.Clone(a)); got != n {
			t.Fatalf("two same lists of %d: got %d", n, got)
		}
	}
}
