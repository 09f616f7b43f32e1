package cache_test

import (
	"math"
	"testing"

	"oocore/api"
)

var wrongStates = []api.State{-1, -2, 4, 5, math.MinInt, math.MaxInt, 1 << 32, 1<<32 + 1}

func TestFillOfWrongNumbers(t *testing.T) {
	c := made(t, 1, 1)
	fills(t, c, 0x10000, row(0), api.Exclusive)
	for _, base := range []uint32{0x10000, 0x10010, 0xfffffff0} {
		for i := uint32(1); i < 16; i++ {
			for s := api.State(-1); s <= 4; s++ {
				noFill(t, c, base+i, s, api.ErrRange)
			}
		}
		// Of a line that is there, too: the range is asked ahead of the state.
		for _, s := range append(wrongStates, api.Invalid) {
			noFill(t, c, base, s, api.ErrRange)
		}
	}
	for _, s := range states {
		noFill(t, c, 0x10000, s, api.ErrState)
	}
	lowers(t, c, 0x10000, api.Invalid, api.Exclusive, row(0))
}

func TestFillOfEachState(t *testing.T) {
	for _, s := range states {
		c := made(t, 16, 4)
		fills(t, c, 0x10000, row(3), s)
		state(t, c, 0x10000, s)
		lowers(t, c, 0x10000, api.Invalid, s, row(3))
	}
}

func TestLowerOfWrongNumbers(t *testing.T) {
	c := made(t, 1, 1)
	fills(t, c, 0x10000, row(0), api.Modified)
	for _, base := range []uint32{0x10000, 0x10010, 0xfffffff0} {
		for i := uint32(1); i < 16; i++ {
			for s := api.State(-1); s <= 4; s++ {
				noLower(t, c, base+i, s, api.ErrRange)
			}
		}
		// Of a line that is not there, too: the range is asked ahead of the state.
		for _, s := range append(wrongStates, api.Modified) {
			noLower(t, c, base, s, api.ErrRange)
		}
	}
	lowers(t, c, 0x10000, api.Invalid, api.Modified, row(0))
}

// From each state to each.
func TestLowerByState(t *testing.T) {
	for was := api.Invalid; was <= api.Modified; was++ {
		for to := api.Invalid; to <= api.Exclusive; to++ {
			c := made(t, 2, 2)
			fills(t, c, 0x10020, row(7), api.Exclusive)
			if was != api.Invalid {
				fills(t, c, 0x10000, row(1), was)
			}
			if was > to {
				lowers(t, c, 0x10000, to, was, row(1))
				state(t, c, 0x1000f, to)
			} else {
				noLower(t, c, 0x10000, to, api.ErrState)
				state(t, c, 0x1000f, was)
			}
			lowers(t, c, 0x10020, api.Invalid, api.Exclusive, row(7))
		}
	}
}

// A line that is lowered, and not gone, has its bytes still, and may be written again if it is Exclusive.
func TestBytesBehindLower(t *testing.T) {
	c := made(t, 1, 1)
	fills(t, c, 0x10000, row(0), api.Modified)
	lowers(t, c, 0x10000, api.Exclusive, api.Modified, row(0))
	reads(t, c, 0x1000c, 4, 0x0f0e0d0c)
	writes(t, c, 0x1000f, 1, 0xee)
	state(t, c, 0x10000, api.Modified)
	b := row(0)
	b[15] = 0xee
	lowers(t, c, 0x10000, api.Shared, api.Modified, b)
	reads(t, c, 0x1000c, 4, 0xee0e0d0c)
	lowers(t, c, 0x10000, api.Invalid, api.Shared, b)
}
