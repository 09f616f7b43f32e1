package cache_test

import (
	"math"
	"testing"

	"oocore/api"
)

// Each size at each place of a line, that of a multiple and those between.
func TestReadPlaces(t *testing.T) {
	for _, base := range []uint32{0, 0x10000, 0x80000010, 0xfffffff0} {
		for _, s := range states {
			c := made(t, 2, 2)
			fills(t, c, base, row(0xf0), s)
			for i := range uint32(16) {
				for _, size := range sizes {
					if i%uint32(size) != 0 {
						noRead(t, c, base+i, size)
						continue
					}
					want := uint32(0)
					for k := size - 1; k >= 0; k-- {
						want = want<<8 | 0xf0 | i + uint32(k)
					}
					reads(t, c, base+i, size, want)
				}
			}
			state(t, c, base, s)
		}
	}
}

// What is written are the low bytes, the low one first, and no other byte.
func TestWritePlaces(t *testing.T) {
	for _, base := range []uint32{0, 0x10000, 0x80000010, 0xfffffff0} {
		for i := range uint32(16) {
			for _, size := range sizes {
				c := made(t, 1, 3)
				fills(t, c, base+16, row(0x40), api.Exclusive)
				fills(t, c, base, row(0), api.Exclusive)
				fills(t, c, base-16, row(0x80), api.Exclusive)
				b := row(0)
				if i%uint32(size) != 0 {
					noWrite(t, c, base+i, size)
					lowers(t, c, base, api.Invalid, api.Exclusive, b)
				} else {
					writes(t, c, base+i, size, 0xd4c3b2a1)
					copy(b[i:i+uint32(size)], []byte{0xa1, 0xb2, 0xc3, 0xd4})
					lowers(t, c, base, api.Invalid, api.Modified, b)
				}
				lowers(t, c, base+16, api.Invalid, api.Exclusive, row(0x40))
				lowers(t, c, base-16, api.Invalid, api.Exclusive, row(0x80))
			}
		}
	}
}

func TestWrongSizes(t *testing.T) {
	c := made(t, 1, 2)
	fills(t, c, 0x10000, row(0), api.Modified)
	for _, size := range []int{0, 3, 5, 6, 7, 8, 16, -1, -2, -4, math.MinInt, math.MinInt32, math.MaxInt, 1<<32 + 1, 1<<32 + 4} {
		for _, addr := range []uint32{0x10000, 0x10001, 0x10008, 0x1000f, 0x10010, 0} {
			noRead(t, c, addr, size)
			noWrite(t, c, addr, size)
		}
	}
	lowers(t, c, 0x10000, api.Invalid, api.Modified, row(0))
}

func TestLinesThatAreNotThere(t *testing.T) {
	c := made(t, 2, 1)
	fills(t, c, 0x10000, row(0), api.Exclusive)
	for _, addr := range []uint32{0x10010, 0x10020, 0xfff0, 0, 0x20000, 0x90000000} {
		for _, size := range sizes {
			noRead(t, c, addr, size)
			noWrite(t, c, addr, size)
		}
	}
	state(t, c, 0x10000, api.Exclusive)
}

// A Shared line is read, and not written; the others are Modified when they are written.
func TestWriteByState(t *testing.T) {
	for _, s := range states {
		c := made(t, 1, 1)
		fills(t, c, 0x10000, row(0), s)
		for _, size := range sizes {
			if s == api.Shared {
				noWrite(t, c, 0x10004, size)
				state(t, c, 0x10004, api.Shared)
				reads(t, c, 0x10004, 4, 0x07060504)
			} else {
				writes(t, c, 0x10004, size, 0)
				state(t, c, 0x10000, api.Modified)
			}
		}
	}
}

// What is read is what was written last.
func TestWrittenIsRead(t *testing.T) {
	c := made(t, 1, 1)
	fills(t, c, 0, bytes{}, api.Exclusive)
	writes(t, c, 8, 4, 0x11223344)
	writes(t, c, 10, 2, 0xffff5566)
	writes(t, c, 9, 1, 0x77)
	reads(t, c, 8, 4, 0x55667744)
	reads(t, c, 8, 2, 0x7744)
	reads(t, c, 11, 1, 0x55)
	reads(t, c, 4, 4, 0)
	reads(t, c, 12, 4, 0)
}
