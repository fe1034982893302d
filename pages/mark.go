package pages

import (
	"cmp"
	"slices"

	"vaultkeel/api"
	"vaultkeel/device"
	"vaultkeel/stamp"
)

const (
	sides      = 2 // marks stand in the sectors ahead of this one, each on its side
	firstStamp = 2 // it is even, as it is that of the mark in sector 0
)

// mark of pages that are written at once.
type mark struct {
	stamp   int
	numbers []int // of the pages, as they stand on the shelf
}

// side on which it stands: not that of the mark ahead of it, which holds till this one is whole.
func (m mark) side() int { return m.stamp & 1 }

func (m mark) sector() ([]byte, error) {
	body := []byte{byte(len(m.numbers))}
	for _, n := range m.numbers {
		body = append(body, byte(n))
	}
	return stamp.Make(m.stamp, body)
}

// rightMarks gives, by their sides, the marks of a device that are right.
func rightMarks(d *device.Device) (map[int]mark, error) {
	right := map[int]mark{}
	for side := range sides {
		b, err := d.Read(side)
		if err != nil {
			return nil, err
		}
		if m, isRight := openMark(b, count(d)); isRight {
			right[side] = m
		}
	}
	return right, nil
}

// openMark gives the mark that a sector is, if it is a right one where there are so many pages.
func openMark(sector []byte, pages int) (mark, bool) {
	n, body, err := stamp.Open(sector)
	if err != nil || body[0] > api.MaxBatch {
		return mark{}, false
	}
	listed := body[1:][:body[0]]
	if slices.ContainsFunc(listed, func(c byte) bool { return int(c) >= pages }) {
		return mark{}, false
	}
	m := mark{stamp: n}
	for _, c := range listed {
		m.numbers = append(m.numbers, int(c))
	}
	return m, true
}

// newest tells on which side the right mark with the greatest stamp stands; of equal ones the first side.
func newest(right map[int]mark) int {
	return slices.MaxFunc([]int{0, 1}, func(a, b int) int { return cmp.Compare(right[a].stamp, right[b].stamp) })
}
