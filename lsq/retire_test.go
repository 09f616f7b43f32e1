package lsq_test

import (
	"testing"

	"oocore/api"
)

// Loads and stores retire in order, whichever was ready first.
func TestRetireInOrder(t *testing.T) {
	q := made(t, 6)
	numbers := []int{3, 4, 8, 9, 20}
	for _, n := range numbers {
		enters(t, q, n, n%4 == 0, nil)
	}
	reads(t, q, 9, 0x10008, 4)
	writes(t, q, 20, 0x10008, 2, 0x20202020)
	writes(t, q, 8, 0x10000, 4, 0x08080808)
	writes(t, q, 4, 0x10004, 1, 0x04040404)
	reads(t, q, 3, 0x10000, 4)
	for k, n := range numbers {
		for _, other := range numbers {
			if other != n {
				retires(t, q, other, api.ErrOrder)
			}
		}
		retires(t, q, n-1, api.ErrOrder)
		retires(t, q, n+1, api.ErrOrder)
		retires(t, q, n, nil)
		retires(t, q, n, api.ErrOrder)
		length(t, q, []int{4, 4, 4, 3, 3}[k])
	}
	for _, n := range append(numbers, farNumbers...) {
		retires(t, q, n, api.ErrOrder)
	}
	oldest(t, q, 0x10004, 1, 4)
	drains(t, q, nil)
	oldest(t, q, 0x10000, 4, 0x08080808)
	drains(t, q, nil)
	oldest(t, q, 0x10008, 2, 0x2020)
	drains(t, q, nil)
	noOldest(t, q)
	drains(t, q, api.ErrState)
	length(t, q, 0)
}

// The order is asked ahead of the state.
func TestRetireTooEarly(t *testing.T) {
	q := with(t, "lsl")
	for k := range 3 {
		want := []error{api.ErrState, api.ErrOrder, api.ErrOrder}[k]
		retires(t, q, k, want)
	}
	places(t, q, 0, 0x10000, 4, -1)
	retires(t, q, 0, api.ErrState)
	loads(t, q, 0, nil)
	retires(t, q, 1, api.ErrOrder)
	retires(t, q, 0, nil)

	retires(t, q, 0, api.ErrOrder)
	retires(t, q, 1, api.ErrState)
	values(t, q, 1, 0, nil) // it has a value, and no address
	retires(t, q, 1, api.ErrState)
	retires(t, q, 2, api.ErrOrder)
	places(t, q, 1, 0, 1, -1)
	retires(t, q, 1, nil)

	retires(t, q, 1, api.ErrOrder)
	retires(t, q, 2, api.ErrState)
	length(t, q, 2)

	q = with(t, "s")
	places(t, q, 0, 0x10000, 4, -1) // it has an address, and no value
	retires(t, q, 0, api.ErrState)
	values(t, q, 0, 1, nil)
	retires(t, q, 0, nil)
}

// A load may retire while older stores wait to be written.
func TestRetireAheadOfDrain(t *testing.T) {
	q := with(t, "slsl")
	writes(t, q, 0, 0x10000, 4, 1)
	reads(t, q, 1, 0x10000, 4)
	writes(t, q, 2, 0x10004, 4, 2)
	reads(t, q, 3, 0x10004, 4)
	for k := range 4 {
		retires(t, q, k, nil)
	}
	length(t, q, 2)
	oldest(t, q, 0x10000, 4, 1)
	drains(t, q, nil)
	oldest(t, q, 0x10004, 4, 2)
	length(t, q, 1)
}

func TestOldest(t *testing.T) {
	q := made(t, 4)
	noOldest(t, q)
	drains(t, q, api.ErrState)

	enters(t, q, 0, load, nil) // a load is no store that has retired
	reads(t, q, 0, 0x10000, 4)
	noOldest(t, q)
	drains(t, q, api.ErrState)
	enters(t, q, 1, store, nil)
	writes(t, q, 1, 0x10000, 4, 0x87654321)
	noOldest(t, q)
	retires(t, q, 0, nil)

	noOldest(t, q) // a store that could retire has not yet
	drains(t, q, api.ErrState)
	length(t, q, 1)
	retires(t, q, 1, nil)
	for range 3 {
		oldest(t, q, 0x10000, 4, 0x87654321)
	}
	enters(t, q, 2, store, nil)
	drains(t, q, nil)

	noOldest(t, q) // nor one that is not placed
	drains(t, q, api.ErrState)
	length(t, q, 1)
}

// The bytes are those that the size says, whatever the rest of the value is, and whichever of address and value came first.
func TestOldestTellsTheLowBytes(t *testing.T) {
	for _, c := range []struct {
		addr uint32
		size int
		want uint32
	}{{0x10000, 4, 0xfedcba98}, {0x10000, 2, 0xba98}, {0x10002, 2, 0xba98}, {0, 1, 0x98}, {0x20001, 1, 0x98}, {0xffffffff, 1, 0x98}, {0xfffffffe, 2, 0xba98}, {0xfffffffc, 4, 0xfedcba98}} {
		for _, valueFirst := range []bool{false, true} {
			q := with(t, "s")
			if valueFirst {
				values(t, q, 0, 0xfedcba98, nil)
			}
			places(t, q, 0, c.addr, c.size, -1)
			if !valueFirst {
				values(t, q, 0, 0xfedcba98, nil)
			}
			retires(t, q, 0, nil)
			oldest(t, q, c.addr, c.size, c.want)
		}
	}
}

// Bytes that a load has of a store are memory's when that is written: those bytes alone, of this store alone.
func TestDrainGivesBytesToMemory(t *testing.T) {
	q := with(t, "ssll")
	writes(t, q, 0, 0x10000, 2, 0x1111)
	writes(t, q, 1, 0x10002, 2, 0x2222)
	reads(t, q, 2, 0x10002, 2)
	reads(t, q, 3, 0x10000, 4)
	spoils(t, q, 0x10000, -1)
	retires(t, q, 0, nil)
	spoils(t, q, 0x10000, -1)
	drains(t, q, nil)
	spoils(t, q, 0x10000, 3)
	retires(t, q, 1, nil)
	spoils(t, q, 0x10000, 3)
	drains(t, q, nil)
	spoils(t, q, 0x10000, 2)
	spoils(t, q, 0x10010, -1)
	retires(t, q, 2, nil)
	spoils(t, q, 0x10000, 3)
	retires(t, q, 3, nil)
	spoils(t, q, 0x10000, -1)
	length(t, q, 0)
}

// Store 0 has a number as memory might have.
func TestDrainOfOthers(t *testing.T) {
	q := made(t, 5)
	for _, n := range []int{0, 5, 7, 8} {
		enters(t, q, n, n < 7, nil)
	}
	writes(t, q, 0, 0x10010, 4, 1)
	writes(t, q, 5, 0x10000, 4, 2)
	reads(t, q, 7, 0x10000, 4)
	reads(t, q, 8, 0x10010, 4)
	retires(t, q, 0, nil)
	spoils(t, q, 0x10010, -1)
	drains(t, q, nil)
	spoils(t, q, 0x10000, -1)
	spoils(t, q, 0x10010, 8)
}
