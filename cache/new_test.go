package cache_test

import (
	"errors"
	"math"
	"slices"
	"testing"

	"oocore/api"
	"oocore/cache"
)

func TestShapes(t *testing.T) {
	numbers := []int{math.MinInt, math.MinInt32, -16, -4, -1, 0, 1, 2, 3, 4, 5, 6, 7, 8, 9, 12, 15, 16, 17, 31, 32, 64, math.MaxInt32, 1 << 31, 1 << 32, 1<<32 + 1, 1 << 62, math.MaxInt}
	for _, sets := range numbers {
		for _, ways := range numbers {
			c, err := cache.New(api.Shape{Sets: sets, Ways: ways})
			if slices.Contains([]int{1, 2, 4, 8, 16}, sets) && ways >= 1 && ways <= 4 {
				if c == nil || err != nil {
					t.Errorf("K1: New(%d, %d) = %v, %v", sets, ways, c != nil, err)
				}
			} else if c != nil || !errors.Is(err, api.ErrConfig) {
				t.Errorf("K1: New(%d, %d) = %v, %v, want ErrConfig", sets, ways, c != nil, err)
			}
		}
	}
}

func TestNames(t *testing.T) {
	for n, s := range []api.State{api.Invalid, api.Shared, api.Exclusive, api.Modified} {
		if int(s) != n {
			t.Errorf("K1: the state %d has the number %d", n, s)
		}
	}
	if api.MaxSets != 16 || api.MaxWays != 4 {
		t.Errorf("K1: MaxSets %d, MaxWays %d", api.MaxSets, api.MaxWays)
	}
}

func TestNewIsEmpty(t *testing.T) {
	c := made(t, 4, 2)
	for _, addr := range []uint32{0, 1, 16, 0x10000, 0x1fff0, 0x7ffffff0, 0x80000000, 0xfffffff0, 0xffffffff} {
		state(t, c, addr, api.Invalid)
		for _, size := range sizes {
			noRead(t, c, addr, size)
			noWrite(t, c, addr, size)
		}
		for s := api.Invalid; s <= api.Exclusive; s++ {
			noLower(t, c, addr-addr%16, s, api.ErrState)
		}
		state(t, c, addr, api.Invalid)
	}
}

// A line's state is that of all its addresses, and of no other; at the ends of the addresses, too.
func TestStateOfAllBytes(t *testing.T) {
	for _, base := range []uint32{0, 16, 0x10000, 0x10ff0, 0x7ffffff0, 0x80000000, 0xfffffff0} {
		for _, s := range states {
			c := made(t, 1, 4)
			fills(t, c, base, row(0), s)
			for i := range uint32(16) {
				state(t, c, base+i, s)
			}
			for _, other := range []uint32{base - 1, base - 16, base + 16, base + 31, base ^ 0x80000000, base ^ 0x10000} {
				state(t, c, other, api.Invalid)
			}
		}
	}
}

// Lines of all sets stand beside each other; those of one set, up to as many as there are ways.
func TestSetsAndWays(t *testing.T) {
	for _, sets := range []int{1, 2, 4, 8, 16} {
		for ways := 1; ways <= 4; ways++ {
			for _, base := range []uint32{0, 0x10000, 0x10010, 0xfffff000} {
				c := made(t, sets, ways)
				n := sets * ways
				at := func(k int) uint32 { return base + uint32(16*k) }
				for k := range n {
					fills(t, c, at(k), row(k), states[k%3])
				}
				for k := range n {
					state(t, c, at(k), states[k%3])
				}
				for k := range n {
					drives(t, c, at(n+k), row(n+k), api.Shared, api.Line{Addr: at(k), State: states[k%3], Bytes: row(k)})
					state(t, c, at(k), api.Invalid)
				}
			}
		}
	}
}

// Only lines of the same set drive each other out.
func TestSetsAreApart(t *testing.T) {
	for _, sets := range []int{2, 4, 8, 16} {
		c := made(t, sets, 1)
		for k := range sets {
			fills(t, c, uint32(16*k), row(k), api.Exclusive)
		}
		for k := sets - 1; k >= 0; k-- {
			far := uint32(16*(k+sets*(5+k))) + 0x40000000
			drives(t, c, far, row(100+k), api.Shared, api.Line{Addr: uint32(16 * k), State: api.Exclusive, Bytes: row(k)})
			for j := range sets {
				if j < k {
					state(t, c, uint32(16*j), api.Exclusive)
				} else {
					state(t, c, uint32(16*j), api.Invalid)
				}
			}
		}
	}
}

func TestExamples(t *testing.T) {
	c := made(t, 1, 2)
	fills(t, c, 0x10000, row(0), api.Exclusive)
	fills(t, c, 0x10010, row(16), api.Exclusive)
	reads(t, c, 0x10004, 4, 0x07060504)
	drives(t, c, 0x10020, row(32), api.Exclusive, api.Line{Addr: 0x10010, State: api.Exclusive, Bytes: row(16)})
	if c.Write(0x10002, 4, 1) || !c.Write(0x10000, 4, 1) {
		t.Error("K2: Write at 10002, and at 10000")
	}
	state(t, c, 0x10000, api.Modified)
	b := row(0)
	copy(b[:], []byte{1, 0, 0, 0})
	lowers(t, c, 0x10000, api.Shared, api.Modified, b)
	noWrite(t, c, 0x10000, 4)
	noLower(t, c, 0x10000, api.Exclusive, api.ErrState)
	noLower(t, c, 0x10020, api.Modified, api.ErrRange)
}
