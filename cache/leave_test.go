package cache_test

import (
	"testing"

	"oocore/api"
	"oocore/cache"
)

// filled has the lines 0x10000, 0x10010, .. in one set, all Exclusive: the first was used longest ago.
func filled(t *testing.T, ways int) *cache.Cache {
	t.Helper()
	c := made(t, 1, ways)
	for k := range ways {
		fills(t, c, line(k), row(16*k), api.Exclusive)
	}
	return c
}

func line(k int) uint32 { return 0x10000 + 16*uint32(k) }

// leaves drives lines out, one after the other: these, in this order.
func leaves(t *testing.T, c *cache.Cache, order ...int) {
	t.Helper()
	for n, k := range order {
		l, left, err := c.Fill(0x40000000+16*uint32(n), row(0), api.Shared)
		if l.Addr != line(k) || !left || err != nil {
			t.Errorf("K3: the %dth that leaves is %x, %v, %v, want %x", n, l.Addr, left, err, line(k))
		}
	}
}

func TestTheFirstLeaves(t *testing.T) {
	leaves(t, filled(t, 1), 0)
	leaves(t, filled(t, 2), 0, 1)
	leaves(t, filled(t, 3), 0, 1, 2)
	leaves(t, filled(t, 4), 0, 1, 2, 3)
}

// Read and Write count as used, at each byte of a line and each place of a set.
func TestUsed(t *testing.T) {
	for k, want := range [][]int{{1, 2, 3, 0}, {0, 2, 3, 1}, {0, 1, 3, 2}, {0, 1, 2, 3}} {
		for i := range uint32(16) {
			c := filled(t, 4)
			reads(t, c, line(k)+i, 1, uint32(16*k)+i)
			leaves(t, c, want...)

			c = filled(t, 4)
			writes(t, c, line(k)+i, 1, 0)
			leaves(t, c, want...)
		}
	}
	c := filled(t, 4)
	for _, k := range []int{2, 0, 3, 2, 1, 0} {
		reads(t, c, line(k), 1, uint32(16*k))
	}
	leaves(t, c, 3, 2, 1, 0)
}

// What is refused, or only asked, does not count as used.
func TestNotUsed(t *testing.T) {
	for name, do := range map[string]func(c *cache.Cache){
		"State":            func(c *cache.Cache) { state(t, c, line(0), api.Exclusive) },
		"no multiple read": func(c *cache.Cache) { noRead(t, c, line(0)+1, 2) },
		"no size read":     func(c *cache.Cache) { noRead(t, c, line(0), 8) },
		"no multiple":      func(c *cache.Cache) { noWrite(t, c, line(0)+2, 4) },
		"no size":          func(c *cache.Cache) { noWrite(t, c, line(0), 3) },
		"filled":           func(c *cache.Cache) { noFill(t, c, line(0), api.Modified, api.ErrState) },
		"Lower":            func(c *cache.Cache) { lowers(t, c, line(0), api.Shared, api.Exclusive, row(0)) },
		"no Lower":         func(c *cache.Cache) { noLower(t, c, line(0), api.Exclusive, api.ErrState) },
		"Shared": func(c *cache.Cache) {
			lowers(t, c, line(0), api.Shared, api.Exclusive, row(0))
			noWrite(t, c, line(0), 4)
		},
	} {
		c := filled(t, 4)
		do(c)
		if leaves(t, c, 0, 1, 2, 3); t.Failed() {
			t.Fatalf("K2 to K4: behind %s", name)
		}
	}
}

// A line that leaves is told as it was: its state, and the bytes that were written.
func TestToldAsItWas(t *testing.T) {
	c := filled(t, 3)
	lowers(t, c, line(1), api.Shared, api.Exclusive, row(16))
	writes(t, c, line(0)+6, 2, 0xbbaa)
	b := row(0)
	b[6], b[7] = 0xaa, 0xbb
	drives(t, c, line(9), row(9), api.Modified, api.Line{Addr: line(1), State: api.Shared, Bytes: row(16)})
	drives(t, c, line(8), row(8), api.Modified, api.Line{Addr: line(2), State: api.Exclusive, Bytes: row(32)})
	drives(t, c, line(7), row(7), api.Modified, api.Line{Addr: line(0), State: api.Modified, Bytes: b})
	drives(t, c, line(0), row(1), api.Shared, api.Line{Addr: line(9), State: api.Modified, Bytes: row(9)})
	reads(t, c, line(0), 4, 0x04030201)
}

// A line that is gone makes room: none has to leave for the next, wherever in the order of use it stood.
func TestRoomBehindLower(t *testing.T) {
	for gone := range 4 {
		c := filled(t, 4)
		lowers(t, c, line(gone), api.Invalid, api.Exclusive, row(16*gone))
		state(t, c, line(gone), api.Invalid)
		noRead(t, c, line(gone), 4)
		noWrite(t, c, line(gone), 4)
		noLower(t, c, line(gone), api.Invalid, api.ErrState)
		fills(t, c, line(7), row(7), api.Shared)
		var order []int
		for k := range 4 {
			if k != gone {
				order = append(order, k)
			}
		}
		leaves(t, c, append(order, 7)...)
	}
}

// A line that comes once more begins anew.
func TestFillAgain(t *testing.T) {
	c := filled(t, 2)
	writes(t, c, line(0), 4, 0xffffffff)
	b := row(0)
	copy(b[:], []byte{0xff, 0xff, 0xff, 0xff})
	lowers(t, c, line(0), api.Invalid, api.Modified, b)
	fills(t, c, line(0), row(50), api.Shared)
	reads(t, c, line(0), 4, 0x35343332)
	noWrite(t, c, line(0), 4)
	leaves(t, c, 1, 0)
}
