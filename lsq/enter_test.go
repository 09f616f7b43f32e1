package lsq_test

import (
	"errors"
	"math"
	"testing"

	"oocore/api"
	"oocore/lsq"
)

func TestNew(t *testing.T) {
	for _, size := range append([]int{-33, -32, 0, 33, 34, 64, 1<<32 + 4, math.MaxInt32}, farNumbers...) {
		if q, err := lsq.New(size); q != nil || !errors.Is(err, api.ErrConfig) {
			t.Errorf("Q1: New(%d) = %v, %v, want ErrConfig", size, q != nil, err)
		}
	}
	for size := 1; size <= 32; size++ {
		length(t, made(t, size), 0)
	}
	if api.MinQueue != 1 || api.MaxQueue != 32 {
		t.Errorf("Q1: MinQueue %d, MaxQueue %d", api.MinQueue, api.MaxQueue)
	}
}

func TestNewIsEmpty(t *testing.T) {
	q := made(t, 3)
	length(t, q, 0)
	noOldest(t, q)
	drains(t, q, api.ErrState)
	spoils(t, q, 0, -1)
	q.Squash(-1)
	for _, n := range append([]int{0, 1}, farNumbers...) {
		strange(t, q, n)
	}
	length(t, q, 0)
}

// A queue takes as many as its size says, and one more when one is gone, whichever way.
func TestFull(t *testing.T) {
	for size := 1; size <= 32; size++ {
		q := made(t, size)
		for k := range size {
			length(t, q, k)
			enters(t, q, k, k%2 == 0, nil)
		}
		enters(t, q, size, load, api.ErrFull)
		enters(t, q, size, store, api.ErrFull)
		length(t, q, size)

		writes(t, q, 0, 0x10000, 4, 7)
		retires(t, q, 0, nil)
		enters(t, q, size, load, api.ErrFull)
		length(t, q, size)
		drains(t, q, nil)
		length(t, q, size-1)
		enters(t, q, size, load, nil)
		enters(t, q, size+1, load, api.ErrFull)

		q.Squash(size - 1)
		length(t, q, size-1)
		enters(t, q, size, load, nil)
		enters(t, q, size+1, store, api.ErrFull)
	}
	q := made(t, 1)
	enters(t, q, 8, load, nil)
	reads(t, q, 8, 0x10000, 1)
	enters(t, q, 9, load, api.ErrFull)
	retires(t, q, 8, nil)
	length(t, q, 0)
	enters(t, q, 9, load, nil)
}

// Numbers go up, with gaps; the order is asked ahead of the room.
func TestEnterOrder(t *testing.T) {
	q := made(t, 3)
	wrong := func(numbers ...int) {
		t.Helper()
		for _, n := range append(numbers, -1, -2, math.MinInt) {
			enters(t, q, n, load, api.ErrOrder)
			enters(t, q, n, store, api.ErrOrder)
		}
	}
	wrong()
	enters(t, q, 4, store, nil)
	wrong(0, 3, 4)
	enters(t, q, 5, load, nil)
	wrong(0, 4, 5)
	enters(t, q, 1<<40, store, nil)
	wrong(0, 4, 5, 6, 1<<32, 1<<40)
	enters(t, q, 1<<40+1, load, api.ErrFull)
	enters(t, q, math.MaxInt, load, api.ErrFull)
	length(t, q, 3)
	for _, n := range []int{0, 1, 2, 3, 6, 1<<40 + 1} {
		strange(t, q, n)
	}
}

func TestEnterTheLastNumber(t *testing.T) {
	q := made(t, 3)
	enters(t, q, 0, load, nil)
	enters(t, q, math.MaxInt, store, nil)
	enters(t, q, math.MaxInt, store, api.ErrOrder)
	reads(t, q, 0, 0x10000, 4)
	writes(t, q, math.MaxInt, 0x10000, 4, 9)
	q.Squash(math.MaxInt - 1)
	length(t, q, 1)
}

// The youngest one is one that is in: behind those that are gone, their numbers may come once more.
func TestEnterBehindThoseThatAreGone(t *testing.T) {
	q := made(t, 4)
	for _, n := range []int{2, 3, 7} {
		enters(t, q, n, store, nil)
	}
	q.Squash(3)
	enters(t, q, 3, load, api.ErrOrder)
	enters(t, q, 4, load, nil)
	q.Squash(-1)
	length(t, q, 0)
	enters(t, q, 0, store, nil)

	writes(t, q, 0, 0x10000, 4, 1)
	enters(t, q, 1, load, nil)
	reads(t, q, 1, 0x10004, 4)
	retires(t, q, 0, nil)
	retires(t, q, 1, nil)
	enters(t, q, 0, load, api.ErrOrder)
	enters(t, q, 1, load, nil)
	q.Squash(-1)
	drains(t, q, nil)
	enters(t, q, 0, load, nil)
	length(t, q, 1)
}

// What is in begins anew, though one of the same number was there: nothing of that one is left.
func TestNumbersBeginAnew(t *testing.T) {
	q := made(t, 4)
	enters(t, q, 0, store, nil)
	enters(t, q, 1, load, nil)
	writes(t, q, 0, 0x10000, 4, 5)
	reads(t, q, 1, 0x10004, 4)
	q.Squash(-1)
	enters(t, q, 0, load, nil)
	enters(t, q, 1, store, nil)
	noSearch(t, q, 0)
	loads(t, q, 0, api.ErrState)
	spoils(t, q, 0x10004, -1)
	retires(t, q, 0, api.ErrState)
	values(t, q, 1, 6, nil)
	places(t, q, 1, 0x10000, 4, -1)
	places(t, q, 0, 0x10000, 4, -1)
	finds(t, q, 0, bold, 0, 0)
}

func TestExamples(t *testing.T) {
	q := made(t, 4)
	enters(t, q, 0, store, nil)
	enters(t, q, 1, load, nil)
	enters(t, q, 1, store, api.ErrOrder)
	places(t, q, 1, 0x10002, 2, -1)
	waits(t, q, 1, !bold)
	finds(t, q, 1, bold, 0, 0)
	loads(t, q, 1, nil)
	spoils(t, q, 0x1000f, 1)
	places(t, q, 0, 0x10000, 4, 1)
	waits(t, q, 1, bold)
	values(t, q, 0, 0x11223344, nil)
	finds(t, q, 1, bold, 3, 0x1122)
}
