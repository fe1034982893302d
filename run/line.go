package run

import (
	"errors"
	"iter"
	"strconv"
	"strings"
)

// blank stands between words.
const blank = " "

const hexDigits = "0123456789abcdef"

// mostNumber is the greatest of nine digits.
const mostNumber = 999_999_999

// Kinds of words, as forms name them.
const (
	kindNumber = 'N'
	kindHex    = 'H'
	kindName   = 'A'
)

// errBad is of a line that is of no row, or of which a word can't be read.
var errBad = errors.New("bad")

// order is a line that was read: the row that it is of, and what its words say, numbers in their order.
type order struct {
	row     string
	numbers []int
	name    string
	body    []byte
}

// lines goes over the pieces of a text between its bytes 10; what is empty behind the last of these is none.
func lines(text string) iter.Seq[string] {
	return func(yield func(string) bool) {
		for text := text; text != ""; {
			line, rest, _ := strings.Cut(text, "\n")
			if !yield(line) {
				return
			}
			text = rest
		}
	}
}

// formOf tells of which kinds the words of a row are, behind its first one.
func formOf(row string) (string, error) {
	switch row {
	case "new":
		return "NN", nil
	case "free", "cut":
		return "N", nil
	case "write":
		return "NNH", nil
	case "read":
		return "NNN", nil
	case "set":
		return "AN", nil
	case "unset", "get":
		return "A", nil
	case "commit", "abort", "stamp", "crash", "pack", "sweep", "stat":
		return "", nil
	}
	return "", errBad
}

// read a line. Words are cut at each blank, as one of them may be empty.
func read(line string) (order, error) {
	words := strings.Split(line, blank)
	form, err := formOf(words[0])
	if err != nil {
		return order{}, err
	}
	o := order{row: words[0]}
	words = words[1:]
	if len(words) != len(form) {
		return order{}, errBad
	}
	for i, word := range words {
		if err := o.take(form[i], word); err != nil {
			return order{}, err
		}
	}
	return o, nil
}

// take what a word says, by its kind.
func (o *order) take(kind byte, word string) error {
	var err error
	switch kind {
	case kindNumber:
		var n int
		n, err = readNumber(word)
		o.numbers = append(o.numbers, n)
	case kindHex:
		o.body, err = readHex(word)
	case kindName:
		o.name = word // whether it is a right one chapter 12 tells
	}
	return err
}

// readNumber reads one that is written just as it would be told.
func readNumber(word string) (int, error) {
	n, err := strconv.Atoi(word)
	if err != nil || strconv.Itoa(n) != word || n < -mostNumber || n > mostNumber {
		return 0, errBad
	}
	return n, nil
}

func readHex(word string) ([]byte, error) {
	if len(word)%2 != 0 {
		return nil, errBad
	}
	b := make([]byte, len(word)/2)
	for i := range len(word) {
		d := strings.IndexByte(hexDigits, word[i])
		if d < 0 {
			return nil, errBad
		}
		b[i/2] = b[i/2]<<4 | byte(d)
	}
	return b, nil
}
