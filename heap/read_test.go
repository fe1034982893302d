package heap_test

import (
	"math"
	"testing"

	"vaultkeel/api"
)

func TestCallsOfNoHandle(t *testing.T) {
	for _, b := range [][]byte{laid(288), some(), full()} {
		s := benchOf(t, b)
		for _, handle := range noHandles {
			s.nothing(handle, api.ErrRange)
		}
	}
}

func TestCallsOfNone(t *testing.T) {
	s := benchOf(t, some())
	for _, handle := range []int{1, 3, 6, 8, 39} {
		s.nothing(handle, api.ErrNone)
	}
	s.free(7)
	s.nothing(7, api.ErrNone)
}

func TestReadOfEachPart(t *testing.T) {
	b := some()
	s := benchOf(t, b)
	for at := 0; at <= 20; at++ {
		for n := 0; n <= 22; n++ {
			if at+n <= 20 {
				s.read(2, at, b[330+at:330+at+n])
			} else {
				s.noRead(2, at, n, api.ErrShape)
			}
		}
	}
}

// extremes are numbers of which any two, or one and a little, may be more or less than an int has.
var extremes = []int{math.MaxInt, math.MaxInt - 1, math.MaxInt - 20, math.MaxInt - 330, math.MinInt, math.MinInt + 1, math.MinInt + 20, 1 << 62, -1 << 62, 1 << 32, 1<<32 + 1, 1 << 31, -1 << 31, 1 << 16}

func TestReadOfWhatIsNotThere(t *testing.T) {
	s := benchOf(t, some())
	for _, at := range []int{-1, -2, -20, -330, 21, 22, 70, 1000} {
		for _, n := range []int{0, 1, 2, 20, -1, 400} {
			s.noRead(2, at, n, api.ErrShape)
		}
	}
	for at := range 21 {
		for _, n := range []int{-1, -2, -20, -21, 21, 71, 1000} {
			s.noRead(2, at, n, api.ErrShape)
		}
	}
	for _, x := range extremes {
		for _, y := range append(extremes, 0, 1, -1, 20, 21, -20) {
			s.noRead(2, x, y, api.ErrShape)
			s.noRead(2, y, x, api.ErrShape)
		}
	}
}

func TestWriteOfEachPart(t *testing.T) {
	s := benchOf(t, some())
	for at := 0; at <= 20; at++ {
		for n := 0; n <= 22; n++ {
			if at+n <= 20 {
				s.write(2, 330, at, counted(3*at+11*n, n))
			} else {
				s.noWrite(2, at, counted(3*at, n), api.ErrShape)
			}
		}
	}
	b := some()
	s.read(7, 0, b[289:329])
	s.read(40, 0, b[351:400])
}

func TestWriteOfWhatIsNotThere(t *testing.T) {
	s := benchOf(t, some())
	for _, at := range append(extremes, -1, -2, -20, -330, 21, 22, 1000) {
		for _, n := range []int{0, 1, 2, 20, 21, 1001, 7000} {
			s.noWrite(2, at, counted(5, n), api.ErrShape)
		}
	}
	s.noWrite(2, 0, counted(5, 21), api.ErrShape)
	s.noWrite(2, 20, counted(5, 1), api.ErrShape)
	s.noWrite(2, 1, counted(5, 7000), api.ErrShape)
}

func TestWriteOfNothing(t *testing.T) {
	s := benchOf(t, some())
	for at := 0; at <= 20; at++ {
		s.write(2, 330, at, nil)
		s.write(2, 330, at, []byte{})
	}
	s.noWrite(2, 21, nil, api.ErrShape)
	s.noWrite(2, -1, nil, api.ErrShape)
	if got, err := s.heap.Read(2, 20, 0); len(got) != 0 || err != nil {
		t.Errorf("Read of nothing at the end: %v, %v", got, err)
	}
}

func TestWriteToTheLastByte(t *testing.T) {
	s := newBench(t, 6400)
	for handle := 1; handle <= 6; handle++ {
		s.alloc(1000, 0, handle, 288+1000*(handle-1))
	}
	s.alloc(112, 0, 7, 6288)
	s.write(7, 6288, 111, []byte{7})
	s.write(6, 5288, 0, counted(1, 1000))
	s.write(1, 288, 0, counted(2, 1000))
	s.write(1, 288, 999, []byte{3})
	s.noWrite(1, 999, []byte{3, 4}, api.ErrShape) // there are bytes behind it, but of another one
	s.noWrite(7, 111, []byte{3, 4}, api.ErrShape)
	s.noRead(1, 999, 2, api.ErrShape)
	s.noRead(7, 112, 1, api.ErrShape)
	s.read(7, 110, []byte{0, 7})
	s.read(2, 0, make([]byte, 1000))
}

func TestWriteOverWhatWasWritten(t *testing.T) {
	s := newBench(t, 300)
	s.alloc(8, 3, 1, 288)
	s.write(1, 288, 0, []byte("abcdefgh"))
	s.write(1, 288, 2, []byte("xyz"))
	s.read(1, 0, []byte("abxyzfgh"))
	s.write(1, 288, 0, make([]byte, 8))
	s.tag(1, 3)
	s.size(1, 8)
}

func TestTagAndSize(t *testing.T) {
	s := newBench(t, 6400)
	s.alloc(1, 0, 1, 288)
	s.alloc(1000, 15, 2, 289)
	s.alloc(300, 9, 3, 1289)
	for _, b := range []*bench{s, benchOf(t, s.heap.Bytes())} {
		b.tag(1, 0)
		b.tag(2, 15)
		b.tag(3, 9)
		b.size(1, 1)
		b.size(2, 1000)
		b.size(3, 300)
		b.free(2)
		b.nothing(2, api.ErrNone)
		b.alloc(2, 4, 2, 289)
	}
}
