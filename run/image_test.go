package run_test

import (
	"bytes"
	"slices"
)

// An image by hand, byte by byte: handles of five bytes from 0 on, roots of eleven from 200 on, objects from 288 on.

// replaced gives a copy of b with other bytes from at on.
func replaced(b []byte, at int, row ...byte) []byte {
	return slices.Concat(b[:at], row, b[at+len(row):])
}

// object gives a copy of b in which the five bytes of a handle are these.
func object(b []byte, handle, first, at, length int) []byte {
	return replaced(b, 5*(handle-1), byte(first), byte(at%256), byte(at/256), byte(length%256), byte(length/256))
}

// rooted gives a copy of b in which a root is at a place; with neither a name nor a handle there is none.
func rooted(b []byte, i int, name string, handle int) []byte {
	row := make([]byte, 11)
	copy(row, name)
	row[10] = byte(handle)
	return replaced(b, 200+11*i, row...)
}

func isObject(b []byte, handle int) bool {
	return handle >= 1 && handle <= 40 && b[5*(handle-1)] > 0
}

// place tells where an object is, how long, and of which tag.
func place(b []byte, handle int) (at, length, tag int) {
	row := b[5*(handle-1):]
	return int(row[1]) + 256*int(row[2]), int(row[3]) + 256*int(row[4]), int(row[0]) - 1
}

// wrongHandle tells what is wrong with one; nothing, if it is an object.
func wrongHandle(b []byte, handle int) string {
	switch {
	case handle < 1 || handle > 40:
		return "ErrRange"
	case !isObject(b, handle):
		return "ErrNone"
	}
	return ""
}

// rootAt gives the root at a place; the empty one, if there is none.
func rootAt(b []byte, i int) (string, int) {
	row := b[200+11*i:][:11]
	return string(bytes.TrimRight(row[:8], "\x00")), int(row[10])
}

// placeOf tells at which place a root of that name is; -1: at none.
func placeOf(b []byte, name string) int {
	for i := range 8 {
		if is, _ := rootAt(b, i); is == name {
			return i
		}
	}
	return -1
}

// owners tells of each byte behind the handles and roots whose it is; 0: nobody's.
func owners(b []byte) []int {
	out := make([]int, len(b)-288)
	for handle := 1; handle <= 40; handle++ {
		if isObject(b, handle) {
			at, length, _ := place(b, handle)
			for i := range length {
				out[at-288+i] = handle
			}
		}
	}
	return out
}

// runs gives the lengths of the runs of free bytes, and where each begins.
func runs(b []byte) (ats, lengths []int) {
	length := 0
	for i, owner := range append(owners(b), -1) {
		if owner == 0 {
			length++
			continue
		}
		if length > 0 {
			ats, lengths = append(ats, 288+i-length), append(lengths, length)
		}
		length = 0
	}
	return ats, lengths
}

// packed gives an image whose objects stand close together, in their order, and how many have moved.
func packed(b []byte) (out []byte, moved int) {
	out = b
	at, last := 288, 0
	for _, owner := range owners(b) {
		if owner == 0 || owner == last {
			continue
		}
		last = owner
		was, length, tag := place(b, owner)
		if was != at {
			out = object(replaced(out, at, b[was:was+length]...), owner, tag+1, at, length)
			moved++
		}
		at += length
	}
	return out, moved
}

// swept gives an image without those to whom nobody leads, and how many these were.
func swept(b []byte) (out []byte, n int) {
	isLive := make([]bool, 256)
	for i := range 8 {
		_, handle := rootAt(b, i)
		isLive[handle] = true
	}
	for range 40 {
		for handle := 1; handle <= 40; handle++ {
			if !isLive[handle] || !isObject(b, handle) {
				continue
			}
			at, length, tag := place(b, handle)
			for _, c := range b[at:][:min(length, tag)] {
				isLive[c] = true
			}
		}
	}
	for handle := 1; handle <= 40; handle++ {
		if isObject(b, handle) && !isLive[handle] {
			b = object(b, handle, 0, 0, 0)
			n++
		}
	}
	return b, n
}

// differing tells in how many pages two images differ.
func differing(a, b []byte) (n int) {
	for i := 0; i < len(a); i += 32 {
		if !bytes.Equal(a[i:i+32], b[i:i+32]) {
			n++
		}
	}
	return n
}
