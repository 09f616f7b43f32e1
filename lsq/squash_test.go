package lsq_test

import (
	"math"
	"testing"

	"oocore/api"
)

// All addresses of a line tell the same, and those beside it do not.
func TestSpoilLines(t *testing.T) {
	for _, line := range []uint32{0, 0x10, 0x10000, 0x7ffffff0, 0x80000000, 0xfffffff0} {
		for _, size := range sizes {
			for i := 0; i < 16; i += size {
				q := with(t, "l")
				reads(t, q, 0, line+uint32(i), size)
				for k := range uint32(16) {
					spoils(t, q, line+k, 0)
				}
				for _, beside := range []uint32{line - 1, line - 16, line + 16, line + 31, line ^ 0x80000000, line ^ 0x100} {
					spoils(t, q, beside, -1)
				}
			}
		}
	}
}

// The oldest one that has its bytes; one that is placed does not.
func TestSpoilTellsTheOldest(t *testing.T) {
	q := with(t, "sllll")
	places(t, q, 1, 0x10000, 4, -1)
	spoils(t, q, 0x10000, -1)
	reads(t, q, 4, 0x10000, 4)
	spoils(t, q, 0x10000, 4)
	reads(t, q, 2, 0x10010, 4)
	spoils(t, q, 0x10000, 4)
	spoils(t, q, 0x10010, 2)
	reads(t, q, 3, 0x1000f, 1)
	spoils(t, q, 0x10000, 3)
	loads(t, q, 1, nil)
	spoils(t, q, 0x1000f, 1)
	spoils(t, q, 0x10010, 2)
	q.Squash(1)
	spoils(t, q, 0x10010, -1)
	q.Squash(0)
	spoils(t, q, 0x10000, -1)
}

// Neither stores nor loads that have all of their bytes of stores; one byte of memory is enough.
func TestSpoilOfBytesOfMemory(t *testing.T) {
	q := with(t, "slll")
	writes(t, q, 0, 0x10000, 2, 0x1111)
	spoils(t, q, 0x10000, -1)
	reads(t, q, 1, 0x10000, 2)
	spoils(t, q, 0x10000, -1)
	reads(t, q, 2, 0x10001, 1)
	spoils(t, q, 0x10000, -1)
	reads(t, q, 3, 0x10000, 4)
	spoils(t, q, 0x10000, 3)
	length(t, q, 4) // it is told; nothing is done to it
	loads(t, q, 3, api.ErrState)
}

// A load that has retired is not spoilt any more.
func TestSpoilBehindRetire(t *testing.T) {
	q := with(t, "ll")
	reads(t, q, 0, 0x10000, 4)
	reads(t, q, 1, 0x10000, 4)
	spoils(t, q, 0x10000, 0)
	retires(t, q, 0, nil)
	spoils(t, q, 0x10000, 1)
	retires(t, q, 1, nil)
	spoils(t, q, 0x10000, -1)
}

func TestSquash(t *testing.T) {
	numbers := []int{2, 3, 5, 9, 14}
	for _, c := range []struct{ after, stay int }{
		{math.MinInt, 0}, {-1, 0}, {0, 0}, {1, 0}, {2, 1}, {3, 2}, {4, 2}, {5, 3}, {8, 3}, {9, 4}, {13, 4}, {14, 5}, {15, 5}, {1 << 32, 5}, {math.MaxInt, 5},
	} {
		q := made(t, 5)
		for _, n := range numbers {
			enters(t, q, n, n%2 == 1, nil)
		}
		q.Squash(c.after)
		length(t, q, c.stay)
		for k, n := range numbers {
			if k < c.stay {
				places(t, q, n, 0x10000+uint32(4*k), 4, -1)
			} else {
				strange(t, q, n)
			}
		}
		if c.stay < 5 {
			enters(t, q, numbers[c.stay], load, nil)
			length(t, q, c.stay+1)
		}
	}
}

// Stores that have retired stay, though their numbers are greater.
func TestSquashLeavesWhatHasRetired(t *testing.T) {
	for _, after := range []int{math.MinInt, -1, 0, 1, 2} {
		q := with(t, "sslsl")
		writes(t, q, 0, 0x10000, 4, 1)
		writes(t, q, 1, 0x10004, 4, 2)
		retires(t, q, 0, nil)
		retires(t, q, 1, nil)
		writes(t, q, 3, 0x10008, 4, 3)
		q.Squash(after)
		length(t, q, max(2, after+1))
		enters(t, q, 1, load, api.ErrOrder)
		enters(t, q, 7, load, nil)
		places(t, q, 7, 0x10004, 4, -1)
		finds(t, q, 7, bold, 15, 2)
		oldest(t, q, 0x10000, 4, 1)
		drains(t, q, nil)
		oldest(t, q, 0x10004, 4, 2)
		drains(t, q, nil)
		noOldest(t, q)
		finds(t, q, 7, bold, 0, 0)
	}
}

// Those that stay are as they were.
func TestSquashLeavesTheOlder(t *testing.T) {
	q := with(t, "slsls")
	writes(t, q, 0, 0x10000, 2, 0x1234)
	reads(t, q, 1, 0x10000, 4)
	values(t, q, 2, 0x77, nil)
	places(t, q, 4, 0x10000, 4, -1)
	q.Squash(2)
	values(t, q, 2, 0x78, api.ErrState)
	loads(t, q, 1, api.ErrState)
	spoils(t, q, 0x10000, 1)
	retires(t, q, 0, nil)
	retires(t, q, 1, nil)
	retires(t, q, 2, api.ErrState)
	places(t, q, 2, 0x10003, 1, -1)
	retires(t, q, 2, nil)
	drains(t, q, nil)
	oldest(t, q, 0x10003, 1, 0x77)
}
