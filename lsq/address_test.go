package lsq_test

import (
	"math"
	"testing"

	"oocore/api"
)

var sizes = []int{1, 2, 4}

// Each size at each place of a word, of a load and of a store; at the ends of the words' range, too.
func TestPlaces(t *testing.T) {
	for _, base := range []uint32{0, 4, 0x10000, 0x1000c, 0x20000, 0x7ffffffc, 0x80000000, 0xfffffff8, 0xfffffffc} {
		for i := range uint32(4) {
			for _, size := range sizes {
				q := with(t, "sl")
				if addr := base + i; i%uint32(size) == 0 {
					writes(t, q, 0, addr, size, 0xaabbccdd)
					reads(t, q, 1, addr, size)
				} else {
					noPlace(t, q, 0, addr, size, api.ErrRange)
					noPlace(t, q, 1, addr, size, api.ErrRange)
				}
			}
		}
	}
}

func TestWrongSizes(t *testing.T) {
	q := with(t, "sl")
	for _, size := range append([]int{0, 3, 5, 6, 7, 8, 16, -4, math.MaxInt32, 1<<32 + 2, 1<<32 + 4}, farNumbers...) {
		for _, addr := range []uint32{0, 0x10000, 0x10001, 0xffffffff} {
			noPlace(t, q, 0, addr, size, api.ErrRange)
			noPlace(t, q, 1, addr, size, api.ErrRange)
		}
	}
	// Nothing has changed: neither is placed.
	noSearch(t, q, 1)
	places(t, q, 1, 0x10000, 4, -1)
	waits(t, q, 1, !bold)
	finds(t, q, 1, bold, 0, 0)
	places(t, q, 0, 0x10000, 4, -1)
	waits(t, q, 1, bold)
}

// One that is placed stays where it is; that is asked ahead of the range.
func TestAddressTwice(t *testing.T) {
	q := with(t, "sl")
	writes(t, q, 0, 0x10004, 2, 0x5566)
	places(t, q, 1, 0x10004, 4, -1)
	for k := range 2 {
		noPlace(t, q, k, 0x10004, 2, api.ErrState)
		noPlace(t, q, k, 0x10008, 4, api.ErrState)
		noPlace(t, q, k, 0x10008, 3, api.ErrState)
		noPlace(t, q, k, 0x10001, 2, api.ErrState)
		noPlace(t, q, k, 0, 0, api.ErrState)
	}
	finds(t, q, 1, bold, 3, 0x5566)
	loads(t, q, 1, nil)
	noPlace(t, q, 1, 0x10008, 4, api.ErrState)
	spoils(t, q, 0x10004, 1)
}

// An address of 0 is an address, too.
func TestAddressZeroTwice(t *testing.T) {
	q := with(t, "sl")
	for k := range 2 {
		places(t, q, k, 0, 1, -1)
		noPlace(t, q, k, 0, 1, api.ErrState)
	}
}

func TestStrangeNumbers(t *testing.T) {
	q := made(t, 8)
	for _, n := range []int{2, 4, 6} {
		enters(t, q, n, n == 4, nil)
	}
	for _, n := range append([]int{0, 1, 3, 5, 7}, farNumbers...) {
		strange(t, q, n)
	}
	length(t, q, 3)
}

// A store that has retired is spoken of no more, though it is in; nor is a load that is gone.
func TestRetiredNumbers(t *testing.T) {
	q := with(t, "slsl")
	writes(t, q, 0, 0x10000, 4, 0x01020304)
	reads(t, q, 1, 0x10000, 4)
	retires(t, q, 0, nil)
	strange(t, q, 0)
	retires(t, q, 1, nil)
	strange(t, q, 1)
	length(t, q, 3)
	oldest(t, q, 0x10000, 4, 0x01020304)
	drains(t, q, nil)
	strange(t, q, 0)
	writes(t, q, 2, 0x10000, 4, 5)
}

// A store of which a load has been loaded without it, at each size and place of both: told just if they have a byte in common.
func TestOverlap(t *testing.T) {
	for _, s := range sizes {
		for sa := 0; sa < 8; sa += s {
			for _, l := range sizes {
				for la := 0; la < 8; la += l {
					for _, base := range []uint32{0x10000, 0, 0xfffffff8} {
						q := with(t, "sl")
						reads(t, q, 1, base+uint32(la), l)
						early := -1
						if sa < la+l && la < sa+s {
							early = 1
						}
						places(t, q, 0, base+uint32(sa), s, early)
					}
				}
			}
		}
	}
}

// The ends of the words' range do not touch.
func TestEndsAreApart(t *testing.T) {
	q := with(t, "ssll")
	reads(t, q, 2, 0, 4)
	reads(t, q, 3, 0xfffffffc, 4)
	places(t, q, 0, 0xfffffffc, 4, 3)
	places(t, q, 1, 0, 4, 2)
	spoils(t, q, 0, 2)
	spoils(t, q, 0xffffffff, 3)

	q = with(t, "sl")
	writes(t, q, 0, 0xfffffffc, 4, 0x11223344)
	places(t, q, 1, 0, 4, -1)
	finds(t, q, 1, !bold, 0, 0)

	q = with(t, "sl")
	writes(t, q, 0, 0xffffffff, 1, 0x77)
	places(t, q, 1, 0xfffffffc, 4, -1)
	finds(t, q, 1, !bold, 8, 0x77000000)
}

// Of several loads that went ahead the oldest is told; not one that is older than the store, or does not have its bytes, or has others.
func TestTheOldestLoad(t *testing.T) {
	q := with(t, "lslllll")
	reads(t, q, 0, 0x10000, 4)
	places(t, q, 2, 0x10000, 4, -1)
	reads(t, q, 3, 0x10004, 4)
	reads(t, q, 6, 0x10000, 4)
	reads(t, q, 5, 0x10002, 2)
	places(t, q, 1, 0x10000, 4, 5)
	// It is told; nothing is done to it.
	length(t, q, 7)
	noPlace(t, q, 5, 0x10002, 2, api.ErrState)
	loads(t, q, 5, api.ErrState)
	spoils(t, q, 0x10000, 0)
}

// A load that has the byte of a younger store than this one did not go ahead wrongly.
func TestBytesOfAYoungerStore(t *testing.T) {
	q := with(t, "ssssl")
	writes(t, q, 2, 0x10000, 2, 0xaaaa)
	reads(t, q, 4, 0x10000, 4)
	places(t, q, 1, 0x10000, 2, -1)
	places(t, q, 0, 0x10001, 1, -1)
	places(t, q, 3, 0x10001, 1, 4)

	// Its other bytes are memory's.
	q = with(t, "ssl")
	writes(t, q, 1, 0x10000, 2, 0xaaaa)
	reads(t, q, 2, 0x10000, 4)
	places(t, q, 0, 0x10000, 4, 2)

	// One of them alone is.
	q = with(t, "sssl")
	writes(t, q, 1, 0x10000, 2, 0xaaaa)
	writes(t, q, 2, 0x10003, 1, 0xbb)
	reads(t, q, 3, 0x10000, 4)
	places(t, q, 0, 0x10002, 1, 3)
}

// An older store than this one is as memory is.
func TestBytesOfAnOlderStore(t *testing.T) {
	q := with(t, "ssll")
	writes(t, q, 0, 0x10000, 4, 0x11111111)
	reads(t, q, 3, 0x10003, 1)
	reads(t, q, 2, 0x10000, 2)
	places(t, q, 1, 0x10002, 2, 3)

	// It may have retired, and been written.
	for _, steps := range []int{0, 1, 2} {
		q := with(t, "ssl")
		writes(t, q, 0, 0x10000, 4, 0x11111111)
		reads(t, q, 2, 0x10000, 4)
		if steps > 0 {
			retires(t, q, 0, nil)
		}
		if steps > 1 {
			drains(t, q, nil)
		}
		places(t, q, 1, 0x10001, 1, 2)
	}
}

// What counts is where the bytes were of when the load was loaded, not where they would be of now.
func TestBytesAsTheyWereLoaded(t *testing.T) {
	q := with(t, "sssl")
	reads(t, q, 3, 0x10000, 4)
	places(t, q, 2, 0x10000, 4, 3)
	values(t, q, 2, 5, nil)
	places(t, q, 1, 0x10000, 4, 3)
	finds(t, q, 3, bold, 15, 5)
	places(t, q, 0, 0x10000, 4, 3)
}

// Loads that are thrown away went nowhere.
func TestAddressBehindSquash(t *testing.T) {
	q := with(t, "sll")
	reads(t, q, 1, 0x10000, 4)
	reads(t, q, 2, 0x10000, 4)
	q.Squash(0)
	enters(t, q, 1, load, nil)
	enters(t, q, 2, load, nil)
	places(t, q, 1, 0x10000, 4, -1)
	reads(t, q, 2, 0x10000, 4)
	places(t, q, 0, 0x10000, 4, 2)
}

// Of a load -1, though stores and loads of the same bytes are there.
func TestAddressOfALoad(t *testing.T) {
	q := with(t, "slll")
	writes(t, q, 0, 0x10000, 4, 7)
	reads(t, q, 3, 0x10000, 4)
	reads(t, q, 1, 0x10000, 4)
	places(t, q, 2, 0x10000, 4, -1)
}
