package run_test

import (
	"encoding/hex"
	"fmt"
	"math/rand"
	"regexp"
	"slices"
	"strconv"
	"strings"
	"testing"

	"vaultkeel/run"
)

const (
	aNumber = `(0|-?[1-9][0-9]{0,8})`
	aHex    = `((?:[0-9a-f][0-9a-f])*)`
	aName   = `([^ ]*)`
)

// shapes are the rows of the table.
var shapes = []*regexp.Regexp{
	regexp.MustCompile(`^(new) ` + aNumber + ` ` + aNumber + `$`),
	regexp.MustCompile(`^(free) ` + aNumber + `$`),
	regexp.MustCompile(`^(write) ` + aNumber + ` ` + aNumber + ` ` + aHex + `$`),
	regexp.MustCompile(`^(read) ` + aNumber + ` ` + aNumber + ` ` + aNumber + `$`),
	regexp.MustCompile(`^(set) ` + aName + ` ` + aNumber + `$`),
	regexp.MustCompile(`^(unset) ` + aName + `$`),
	regexp.MustCompile(`^(get) ` + aName + `$`),
	regexp.MustCompile(`^(cut) ` + aNumber + `$`),
	regexp.MustCompile(`^(commit|abort|stamp|crash|pack|sweep|stat)$`),
}

var rightName = regexp.MustCompile(`^[a-z]{1,8}$`)

// model of a store on its device, as images.
type model struct {
	now, kept, went []byte // went: what a Commit in which the power went was to keep
	stamp           int
	left            int // steps ahead of the one at which the power goes; below 0: it does not
	goneAt          int // the step of that Commit
	isDown          bool
}

func newModel() *model {
	b := make([]byte, 32*32)
	return &model{now: b, kept: b, stamp: 2, left: -1}
}

func (m *model) answer(line string) string {
	for _, shape := range shapes {
		if words := shape.FindStringSubmatch(line); words != nil {
			return m.do(words[1], words[2:])
		}
	}
	return "bad"
}

func numberOf(word string) int {
	n, err := strconv.Atoi(word)
	if err != nil {
		panic(err)
	}
	return n
}

func (m *model) do(row string, w []string) string {
	switch row {
	case "new":
		return m.alloc(numberOf(w[0]), numberOf(w[1]))
	case "free":
		return m.free(numberOf(w[0]))
	case "write":
		b, _ := hex.DecodeString(w[2])
		return m.write(numberOf(w[0]), numberOf(w[1]), b)
	case "read":
		return m.read(numberOf(w[0]), numberOf(w[1]), numberOf(w[2]))
	case "set":
		return m.set(w[0], numberOf(w[1]))
	case "unset", "get":
		return m.lookUp(row, w[0])
	case "commit":
		return m.commit()
	case "abort":
		m.now = m.kept
	case "stamp":
		return strconv.Itoa(m.stamp)
	case "cut":
		m.left = numberOf(w[0])
	case "crash":
		m.crash()
	default:
		return m.whole(row)
	}
	return "ok"
}

func (m *model) whole(row string) string {
	n := 0
	switch row {
	case "pack":
		m.now, n = packed(m.now)
	case "sweep":
		m.now, n = swept(m.now)
	case "stat":
		objects, used, most := 0, 0, 0
		for handle := 1; handle <= 40; handle++ {
			if isObject(m.now, handle) {
				_, length, _ := place(m.now, handle)
				objects, used = objects+1, used+length
			}
		}
		_, lengths := runs(m.now)
		for _, length := range lengths {
			most = max(most, length)
		}
		return fmt.Sprint(objects, used, 736-used, most, len(lengths))
	}
	return strconv.Itoa(n)
}

func (m *model) alloc(n, tag int) string {
	if n < 1 || n > 1000 || tag < 0 || tag > 15 {
		return "ErrRange"
	}
	handle, at, best := 1, 0, 1000
	for isObject(m.now, handle) {
		handle++
	}
	ats, lengths := runs(m.now)
	for i, length := range lengths {
		if length >= n && length < best {
			at, best = ats[i], length
		}
	}
	if handle > 40 || at == 0 {
		return "ErrFull"
	}
	m.now = object(replaced(m.now, at, make([]byte, n)...), handle, tag+1, at, n)
	return strconv.Itoa(handle)
}

func (m *model) free(handle int) string {
	if wrong := wrongHandle(m.now, handle); wrong != "" {
		return wrong
	}
	for i := range 8 {
		if _, to := rootAt(m.now, i); to == handle {
			return "ErrClash"
		}
	}
	m.now = object(m.now, handle, 0, 0, 0)
	return "ok"
}

func (m *model) write(handle, at int, body []byte) string {
	if wrong := wrongHandle(m.now, handle); wrong != "" {
		return wrong
	}
	where, length, _ := place(m.now, handle)
	if at < 0 || at+len(body) > length {
		return "ErrShape"
	}
	m.now = replaced(m.now, where+at, body...)
	return "ok"
}

func (m *model) read(handle, at, n int) string {
	if wrong := wrongHandle(m.now, handle); wrong != "" {
		return wrong
	}
	where, length, _ := place(m.now, handle)
	if at < 0 || n < 0 || at+n > length {
		return "ErrShape"
	}
	return fmt.Sprintf("%x", m.now[where+at:][:n])
}

func (m *model) set(name string, handle int) string {
	if !rightName.MatchString(name) {
		return "ErrSyntax"
	}
	if wrong := wrongHandle(m.now, handle); wrong != "" {
		return wrong
	}
	i, answer := placeOf(m.now, name), "old"
	if i < 0 {
		i, answer = placeOf(m.now, ""), "new"
	}
	if i < 0 {
		return "ErrFull"
	}
	m.now = rooted(m.now, i, name, handle)
	return answer
}

// lookUp a root, for unset and get.
func (m *model) lookUp(row, name string) string {
	if !rightName.MatchString(name) {
		return "ErrSyntax"
	}
	i := placeOf(m.now, name)
	if i < 0 {
		return "ErrNone"
	}
	_, handle := rootAt(m.now, i)
	if row == "get" {
		return strconv.Itoa(handle)
	}
	m.now = rooted(m.now, i, "", 0)
	return "ok"
}

func (m *model) commit() string {
	pages := differing(m.kept, m.now)
	steps := 2*pages + 4
	switch {
	case pages > 23:
		return "ErrFull"
	case m.isDown:
		return "ErrLost"
	case pages == 0:
		return "ok"
	case m.left >= 0 && m.left < steps:
		m.isDown, m.went, m.goneAt = true, m.now, m.left
		return "ErrLost"
	case m.left >= 0:
		m.left -= steps
	}
	m.kept = m.now
	m.stamp++
	return "ok"
}

// crash keeps all that is pending: from where the mark is written on it is there.
func (m *model) crash() {
	if m.isDown && m.goneAt > differing(m.kept, m.went) {
		m.kept = m.went
		m.stamp++
	}
	m.now, m.isDown, m.left = m.kept, false, -1
}

// drawnNames are those of which a line is drawn: more than there are places, and some that are none.
var drawnNames = []string{"a", "b", "c", "d", "e", "f", "g", "main", "abcdefgh", "z", "zz", "", "A", "ninelette"}

// weights are rows from which is drawn: all alike, many roots, much that is free between, the power that often goes, and Commits of many pages.
var weights = []string{
	"new new new free write write write read read set set unset get commit abort stamp cut crash pack sweep stat",
	"new new set set set set set set unset get get free commit crash",
	"new new new new new new new free free pack stat write read commit",
	"new write write write set cut commit commit commit commit crash abort stamp read read",
	"big fill commit commit sweep write free stat",
}

// drawnLine draws one that is often right, as the store stands.
func drawnLine(r *rand.Rand, b []byte, row string) string {
	handle, length := r.Intn(46)-3, 10
	var there []int
	for h := 1; h <= 40; h++ {
		if isObject(b, h) {
			there = append(there, h)
		}
	}
	if len(there) > 0 && r.Intn(8) > 0 {
		handle = there[r.Intn(len(there))]
		_, length, _ = place(b, handle)
	}
	at := r.Intn(length+2) - 1
	name := drawnNames[r.Intn(len(drawnNames))]
	switch row {
	case "new":
		return fmt.Sprint("new ", r.Intn([]int{8, 60, 300, 1005}[r.Intn(4)]), " ", r.Intn(17))
	case "big":
		return fmt.Sprint("new ", 736-r.Intn(3), " ", r.Intn(2))
	case "free":
		return fmt.Sprint("free ", handle)
	case "write":
		body := make([]byte, r.Intn(min(length-at+1, 20)+1))
		for i := range body {
			body[i] = byte(r.Intn(43))
		}
		return fmt.Sprintf("write %d %d %x", handle, at, body)
	case "fill":
		return fmt.Sprintf("write %d 0 %x", handle, slices.Repeat([]byte{byte(1 + r.Intn(255))}, length))
	case "read":
		return fmt.Sprint("read ", handle, " ", at, " ", r.Intn(min(length-at+2, 20)+1)-1)
	case "set":
		return fmt.Sprint("set ", name, " ", handle)
	case "unset", "get":
		return row + " " + name
	case "cut":
		return fmt.Sprint("cut ", r.Intn(40)-2)
	}
	return row
}

// spoilt gives a line in which a sign is another one, or more, or not there.
func spoilt(r *rand.Rand, line string) string {
	const signs = "  \t\r-+0129afFgzN\x00\xff"
	i := r.Intn(len(line) + 1)
	sign := string(signs[r.Intn(len(signs))])
	switch r.Intn(3) {
	case 0:
		return line[:i] + sign + line[i:]
	case 1:
		return line[:i] + line[min(i+1, len(line)):]
	}
	return line[:i] + sign + line[min(i+1, len(line)):]
}

// drawnText draws a text of at most 3000 bytes, with what it must be answered; did counts rows with their answers.
func drawnText(r *rand.Rand, did map[string]int) (text, want string) {
	m := newModel()
	rows := strings.Fields(weights[r.Intn(len(weights))])
	for length := r.Intn(3001); ; {
		row := rows[r.Intn(len(rows))]
		line := drawnLine(r, m.now, row)
		if r.Intn(12) == 0 {
			row, line = "spoilt", spoilt(r, line)
		}
		if len(text)+len(line)+1 > length {
			return text, want
		}
		wasDown, was := m.isDown, m.kept
		answer := m.answer(line)
		text += line + "\n"
		want += answer + "\n"
		if did == nil {
			continue
		}
		if row == "crash" && wasDown {
			row = fmt.Sprint("crash gone ", &was[0] != &m.kept[0])
		}
		if c := answer + "0"; '0' <= c[0] && c[0] <= '9' || strings.HasPrefix(row, "read") && !strings.HasPrefix(c, "Err") {
			answer = "told"
		}
		did[row+": "+answer]++
	}
}

func TestDrawnTexts(t *testing.T) {
	r := rand.New(rand.NewSource(20))
	did := map[string]int{}
	for range 4000 {
		text, want := drawnText(r, did)
		got := run.Run(text)
		if got == want {
			continue
		}
		gots, wants := strings.Split(got, "\n"), strings.Split(want, "\n")
		for i, line := range strings.Split(text, "\n") {
			if i >= len(gots) || i >= len(wants) || gots[i] != wants[i] {
				t.Fatalf("%q:\nline %d, %q: got %q\nwant %q", text, i+1, line, gots[min(i, len(gots)-1)], wants[min(i, len(wants)-1)])
			}
		}
	}
	wantDrawn(t, did)
}

// wantDrawn asks that each row, and each of its answers, was drawn.
func wantDrawn(t *testing.T, did map[string]int) {
	t.Helper()
	for _, c := range []string{
		"new: told ErrRange ErrFull", "free: ok ErrRange ErrNone ErrClash", "write: ok ErrRange ErrNone ErrShape", "read: told ErrRange ErrNone ErrShape",
		"set: new old ErrSyntax ErrRange ErrNone ErrFull", "unset: ok ErrSyntax ErrNone", "get: told ErrSyntax ErrNone", "commit: ok ErrFull ErrLost",
		"abort: ok", "stamp: told", "cut: ok", "crash: ok", "pack: told", "sweep: told", "stat: told", "spoilt: bad ok told ErrNone ErrRange ErrSyntax",
	} {
		row, answers, _ := strings.Cut(c, ": ")
		for _, answer := range strings.Fields(answers) {
			if did[row+": "+answer] < 50 {
				t.Errorf("%s: %s was drawn %d times: the drawn texts do not ask enough", row, answer, did[row+": "+answer])
			}
		}
	}
	for _, crash := range []string{"crash gone true: ok", "crash gone false: ok"} {
		if did[crash] < 50 {
			t.Errorf("%s was drawn %d times: the drawn texts do not ask enough", crash, did[crash])
		}
	}
}
