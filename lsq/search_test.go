package lsq_test

import (
	"testing"

	"oocore/api"
)

func TestValue(t *testing.T) {
	q := with(t, "slsl")
	values(t, q, 0, 1, nil) // ahead of its address
	values(t, q, 0, 2, api.ErrState)
	places(t, q, 0, 0x10000, 4, -1)
	values(t, q, 0, 3, api.ErrState)
	places(t, q, 2, 0x10004, 4, -1)
	values(t, q, 2, 0, nil) // nought is a value, too
	values(t, q, 2, 4, api.ErrState)
	values(t, q, 1, 5, api.ErrState)
	places(t, q, 1, 0x10000, 4, -1)
	values(t, q, 1, 5, api.ErrState)
	finds(t, q, 1, bold, 15, 1)
	places(t, q, 3, 0x10004, 4, -1)
	finds(t, q, 3, bold, 15, 0)
}

// Search and Loaded are of loads that are placed.
func TestSearchState(t *testing.T) {
	q := with(t, "sl")
	noSearch(t, q, 0)
	noSearch(t, q, 1)
	loads(t, q, 0, api.ErrState)
	loads(t, q, 1, api.ErrState)
	writes(t, q, 0, 0x10000, 4, 7)
	noSearch(t, q, 0)
	loads(t, q, 0, api.ErrState)
	noSearch(t, q, 1)
	loads(t, q, 1, api.ErrState)
	places(t, q, 1, 0x10000, 4, -1)
	finds(t, q, 1, !bold, 15, 7)
	loads(t, q, 1, nil)
}

// A load of each size and place, behind a store of each: the store's bytes stand at the load's places.
func TestSearchOfOneStore(t *testing.T) {
	const data = 0x88776655
	for _, s := range sizes {
		for sa := 0; sa < 8; sa += s {
			for _, l := range sizes {
				for la := 0; la < 8; la += l {
					mask, value := 0, uint32(0)
					for i := range l {
						if j := la + i - sa; 0 <= j && j < s {
							mask |= 1 << i
							value |= (data >> (8 * j) & 0xff) << (8 * i)
						}
					}
					for _, base := range []uint32{0x10000, 0, 0xfffffff8} {
						q := with(t, "sl")
						writes(t, q, 0, base+uint32(sa), s, data)
						places(t, q, 1, base+uint32(la), l, -1)
						finds(t, q, 1, !bold, mask, value)
						finds(t, q, 1, bold, mask, value)
					}
				}
			}
		}
	}
}

// Bytes of different stores, and of memory.
func TestSearchOfSeveral(t *testing.T) {
	q := with(t, "ssssl")
	writes(t, q, 0, 0x10000, 4, 0x10101010)
	writes(t, q, 1, 0x10002, 2, 0xffff2222)
	writes(t, q, 2, 0x10001, 1, 0xffffff33)
	writes(t, q, 3, 0x10003, 1, 0xffffff44)
	places(t, q, 4, 0x10000, 4, -1)
	finds(t, q, 4, !bold, 15, 0x44223310)

	q = with(t, "sssl")
	writes(t, q, 0, 0x10003, 1, 0x55)
	writes(t, q, 1, 0x10001, 1, 0x66)
	writes(t, q, 2, 0x10004, 4, 0x77777777)
	places(t, q, 3, 0x10000, 4, -1)
	finds(t, q, 3, !bold, 10, 0x55006600)
}

// The youngest of the older ones, whichever was placed, and got its value, first; no younger one.
func TestSearchOfTheYoungestOlder(t *testing.T) {
	q := with(t, "ssslslss")
	writes(t, q, 7, 0x10000, 4, 0x77777777)
	writes(t, q, 1, 0x10000, 4, 0x11111111)
	writes(t, q, 4, 0x10000, 4, 0x44444444)
	writes(t, q, 0, 0x10000, 4, 0x00abcdef)
	places(t, q, 3, 0x10000, 4, -1)
	places(t, q, 5, 0x10000, 4, -1)
	finds(t, q, 3, bold, 15, 0x11111111)
	finds(t, q, 5, bold, 15, 0x44444444)
	writes(t, q, 2, 0x10002, 1, 0x22)
	finds(t, q, 3, bold, 15, 0x11221111)
	finds(t, q, 5, bold, 15, 0x44444444)
	finds(t, q, 3, !bold, 15, 0x11221111)
	finds(t, q, 5, !bold, 15, 0x44444444) // store 6 is younger, and not placed
}

// A store without a value keeps a load waiting just if it gives a byte.
func TestSearchWithoutValue(t *testing.T) {
	q := with(t, "ssll")
	places(t, q, 0, 0x10000, 4, -1)
	places(t, q, 2, 0x10002, 2, -1)
	places(t, q, 3, 0x10004, 1, -1)
	waits(t, q, 2, bold)
	waits(t, q, 2, !bold)
	finds(t, q, 3, bold, 0, 0)
	waits(t, q, 3, !bold)
	writes(t, q, 1, 0x10002, 2, 0x1234)
	finds(t, q, 2, bold, 3, 0x1234) // store 0 gives no byte any more
	finds(t, q, 2, !bold, 3, 0x1234)
	finds(t, q, 3, !bold, 0, 0)

	q = with(t, "ssl")
	places(t, q, 0, 0x10000, 4, -1)
	writes(t, q, 1, 0x10001, 1, 0xee)
	places(t, q, 2, 0x10000, 4, -1)
	waits(t, q, 2, bold) // it gives three of the four
	loads(t, q, 2, api.ErrState)
	values(t, q, 0, 0x01020304, nil)
	finds(t, q, 2, bold, 15, 0x0102ee04)

	q = with(t, "lsl")
	places(t, q, 1, 0x10000, 4, -1)
	places(t, q, 0, 0x10000, 4, -1)
	finds(t, q, 0, bold, 0, 0)
	finds(t, q, 0, !bold, 0, 0)
}

// Not boldly, each older store must be placed, wherever the others write; a value does not place it.
func TestSearchNotBoldly(t *testing.T) {
	q := with(t, "lssls")
	writes(t, q, 2, 0x10000, 4, 0x22222222)
	places(t, q, 3, 0x10000, 4, -1)
	places(t, q, 0, 0x10000, 4, -1)
	finds(t, q, 0, !bold, 0, 0)
	finds(t, q, 3, bold, 15, 0x22222222)
	waits(t, q, 3, !bold)
	values(t, q, 1, 7, nil)
	waits(t, q, 3, !bold)
	places(t, q, 1, 0x10020, 4, -1)
	finds(t, q, 3, !bold, 15, 0x22222222)
	finds(t, q, 3, bold, 15, 0x22222222)
}

// A load that is not placed keeps none waiting.
func TestSearchBehindLoads(t *testing.T) {
	q := with(t, "lll")
	places(t, q, 2, 0x10000, 4, -1)
	finds(t, q, 2, !bold, 0, 0)
	reads(t, q, 0, 0x10000, 4)
	finds(t, q, 2, !bold, 0, 0)
}

// Stores that have retired give bytes until they are written.
func TestSearchOfRetiredStores(t *testing.T) {
	q := with(t, "ssl")
	writes(t, q, 0, 0x10000, 4, 0x11111111)
	writes(t, q, 1, 0x10000, 2, 0x2222)
	places(t, q, 2, 0x10000, 4, -1)
	retires(t, q, 0, nil)
	finds(t, q, 2, !bold, 15, 0x11112222)
	retires(t, q, 1, nil)
	finds(t, q, 2, !bold, 15, 0x11112222)
	drains(t, q, nil)
	finds(t, q, 2, !bold, 3, 0x2222)
	drains(t, q, nil)
	finds(t, q, 2, !bold, 0, 0)
}

// Search changes nothing, and answers of a load that has its bytes likewise.
func TestSearchAgain(t *testing.T) {
	q := with(t, "sl")
	places(t, q, 1, 0x10000, 2, -1)
	for range 3 {
		finds(t, q, 1, bold, 0, 0)
		waits(t, q, 1, !bold)
	}
	spoils(t, q, 0x10000, -1)
	loads(t, q, 1, nil)
	finds(t, q, 1, bold, 0, 0)
	waits(t, q, 1, !bold)
	places(t, q, 0, 0x10001, 1, 1)
	waits(t, q, 1, bold)
	values(t, q, 0, 0x99, nil)
	finds(t, q, 1, bold, 2, 0x9900)
}

func TestLoaded(t *testing.T) {
	q := with(t, "ssl")
	places(t, q, 1, 0x10000, 4, -1)
	places(t, q, 2, 0x10002, 2, -1)
	loads(t, q, 2, api.ErrState) // it must wait for a value
	spoils(t, q, 0x10000, -1)
	retires(t, q, 2, api.ErrOrder)
	values(t, q, 1, 7, nil)
	loads(t, q, 2, nil) // boldly: store 0 is not placed
	loads(t, q, 2, api.ErrState)
	spoils(t, q, 0x10000, -1)
	places(t, q, 0, 0x10000, 4, -1)
}

// A load that has its bytes has them once and for all, though a Search would have it wait, or find others.
func TestLoadedOnce(t *testing.T) {
	q := with(t, "sl")
	reads(t, q, 1, 0x10000, 4)
	places(t, q, 0, 0x10000, 4, 1)
	loads(t, q, 1, api.ErrState)
	values(t, q, 0, 7, nil)
	loads(t, q, 1, api.ErrState)
	spoils(t, q, 0x10000, 1) // its bytes are memory's as before
}
