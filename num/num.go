// Package num has numbers and names as bytes.
package num

import "vaultkeel/api"

// maxSize is how many bytes a number has at most.
const maxSize = 4

// Put gives a copy of b in which n stands in size bytes from at on, the low byte first.
func Put(b []byte, at, n, size int) ([]byte, error) {
	if !isSize(size) || n < 0 || n > greatest(size) {
		return nil, api.ErrRange
	}
	if !reaches(b, at, size) {
		return nil, api.ErrShape
	}
	out := make([]byte, len(b))
	copy(out, b)
	for i := range size {
		out[at+i] = byte(n >> (8 * i))
	}
	return out, nil
}

// Get gives the number that stands in size bytes of b from at on.
func Get(b []byte, at, size int) (int, error) {
	if !isSize(size) {
		return 0, api.ErrRange
	}
	if !reaches(b, at, size) {
		return 0, api.ErrShape
	}
	n := 0
	for i := range size {
		n |= int(b[at+i]) << (8 * i)
	}
	return n, nil
}

// PutName gives the bytes of a name, with zeros up to api.MaxName.
func PutName(s string) ([]byte, error) {
	// The length comes first, so that a long text is not gone over.
	if len(s) < 1 || len(s) > api.MaxName {
		return nil, api.ErrSyntax
	}
	if ahead(len(s), func(i int) bool { return !isLetter(s[i]) }) < len(s) {
		return nil, api.ErrSyntax
	}
	out := make([]byte, api.MaxName)
	copy(out, s)
	return out, nil
}

// GetName gives the name of bytes as PutName makes them.
func GetName(b []byte) (string, error) {
	if len(b) != api.MaxName {
		return "", api.ErrShape
	}
	letters := ahead(len(b), func(i int) bool { return !isLetter(b[i]) })
	rest := b[letters:]
	zeros := ahead(len(rest), func(i int) bool { return rest[i] != 0 })
	if letters == 0 || zeros < len(rest) {
		return "", api.ErrSyntax
	}
	return string(b[:letters]), nil
}

// Same tells at how many places, from the first on, two lists are the same.
func Same(a, b []byte) int {
	return ahead(min(len(a), len(b)), func(i int) bool { return a[i] != b[i] })
}

// ahead tells how many of n places come ahead of the first at which it is so; n, if it is so at none.
func ahead(n int, isSo func(place int) bool) int {
	i := 0
	for i < n && !isSo(i) {
		i++
	}
	return i
}

func isSize(size int) bool { return 1 <= size && size <= maxSize }

func isLetter(c byte) bool { return 'a' <= c && c <= 'z' }

// greatest number that size bytes have.
func greatest(size int) int { return 1<<(8*size) - 1 }

// reaches tells whether b has size bytes from at on. It takes size away from the length, as at and size together might wrap round.
func reaches(b []byte, at, size int) bool {
	return 0 <= at && at <= len(b)-size
}
