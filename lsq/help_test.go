package lsq_test

import (
	"errors"
	"math"
	"testing"

	"oocore/api"
	"oocore/lsq"
)

const (
	load  = false
	store = true
	bold  = true
)

// farNumbers are such as no test lets in.
var farNumbers = []int{-1, -2, math.MinInt, math.MinInt32, 1 << 32, 1<<32 + 1, math.MaxInt}

func made(t *testing.T, size int) *lsq.Queue {
	t.Helper()
	q, err := lsq.New(size)
	if err != nil || q == nil {
		t.Fatalf("Q1: New(%d) = %v, %v", size, q != nil, err)
	}
	return q
}

// with has loads and stores of the numbers 0, 1, ..: a letter each, l or s.
func with(t *testing.T, kinds string) *lsq.Queue {
	t.Helper()
	q := made(t, 32)
	for k, c := range kinds {
		enters(t, q, k, c == 's', nil)
	}
	return q
}

func enters(t *testing.T, q *lsq.Queue, number int, isStore bool, want error) {
	t.Helper()
	if err := q.Enter(number, isStore); !errors.Is(err, want) {
		t.Errorf("Q1: Enter(%d, %v) = %v, want %v", number, isStore, err, want)
	}
}

func length(t *testing.T, q *lsq.Queue, want int) {
	t.Helper()
	if got := q.Len(); got != want {
		t.Errorf("Q1: Len() = %d, want %d", got, want)
	}
}

// places lets one be placed; of a store, early is the load that went ahead wrongly.
func places(t *testing.T, q *lsq.Queue, number int, addr uint32, size, early int) {
	t.Helper()
	if n, err := q.Address(number, addr, size); n != early || err != nil {
		t.Errorf("Q2: Address(%d, %x, %d) = %d, %v, want %d", number, addr, size, n, err, early)
	}
}

func noPlace(t *testing.T, q *lsq.Queue, number int, addr uint32, size int, want error) {
	t.Helper()
	if n, err := q.Address(number, addr, size); n != -1 || !errors.Is(err, want) {
		t.Errorf("Q2: Address(%d, %x, %d) = %d, %v, want -1, %v", number, addr, size, n, err, want)
	}
}

func values(t *testing.T, q *lsq.Queue, number int, data uint32, want error) {
	t.Helper()
	if err := q.Value(number, data); !errors.Is(err, want) {
		t.Errorf("Q3: Value(%d, %x) = %v, want %v", number, data, err, want)
	}
}

func finds(t *testing.T, q *lsq.Queue, number int, isBold bool, mask int, value uint32) {
	t.Helper()
	if f, err := q.Search(number, isBold); f != (api.Found{Mask: mask, Value: value}) || err != nil {
		t.Errorf("Q3: Search(%d, %v) = %+v, %v, want Mask %x, Value %x", number, isBold, f, err, mask, value)
	}
}

func waits(t *testing.T, q *lsq.Queue, number int, isBold bool) {
	t.Helper()
	if f, err := q.Search(number, isBold); f != (api.Found{Wait: true}) || err != nil {
		t.Errorf("Q3: Search(%d, %v) = %+v, %v, want Wait", number, isBold, f, err)
	}
}

func noSearch(t *testing.T, q *lsq.Queue, number int) {
	t.Helper()
	for _, isBold := range []bool{false, true} {
		if f, err := q.Search(number, isBold); f != (api.Found{}) || !errors.Is(err, api.ErrState) {
			t.Errorf("Q3: Search(%d, %v) = %+v, %v, want ErrState", number, isBold, f, err)
		}
	}
}

func loads(t *testing.T, q *lsq.Queue, number int, want error) {
	t.Helper()
	if err := q.Loaded(number); !errors.Is(err, want) {
		t.Errorf("Q4: Loaded(%d) = %v, want %v", number, err, want)
	}
}

func retires(t *testing.T, q *lsq.Queue, number int, want error) {
	t.Helper()
	if err := q.Retire(number); !errors.Is(err, want) {
		t.Errorf("Q5: Retire(%d) = %v, want %v", number, err, want)
	}
}

func oldest(t *testing.T, q *lsq.Queue, addr uint32, size int, data uint32) {
	t.Helper()
	if w, is := q.Oldest(); w != (api.Written{Addr: addr, Size: size, Data: data}) || !is {
		t.Errorf("Q5: Oldest() = %x, %v, want %x, %d, %x", w, is, addr, size, data)
	}
}

func noOldest(t *testing.T, q *lsq.Queue) {
	t.Helper()
	if w, is := q.Oldest(); w != (api.Written{}) || is {
		t.Errorf("Q5: Oldest() = %+v, %v, want none", w, is)
	}
}

func drains(t *testing.T, q *lsq.Queue, want error) {
	t.Helper()
	if err := q.Drain(); !errors.Is(err, want) {
		t.Errorf("Q5: Drain() = %v, want %v", err, want)
	}
}

func spoils(t *testing.T, q *lsq.Queue, line uint32, want int) {
	t.Helper()
	if got := q.Spoil(line); got != want {
		t.Errorf("Q6: Spoil(%x) = %d, want %d", line, got, want)
	}
}

// writes lets a store be placed, with a value, when no load has gone ahead of it.
func writes(t *testing.T, q *lsq.Queue, number int, addr uint32, size int, data uint32) {
	t.Helper()
	places(t, q, number, addr, size, -1)
	values(t, q, number, data, nil)
}

// reads lets a load be placed, and have its bytes.
func reads(t *testing.T, q *lsq.Queue, number int, addr uint32, size int) {
	t.Helper()
	places(t, q, number, addr, size, -1)
	loads(t, q, number, nil)
}

// strange tells that all calls refuse a number that is not in, or has retired.
func strange(t *testing.T, q *lsq.Queue, number int) {
	t.Helper()
	noPlace(t, q, number, 0x10000, 4, api.ErrState)
	noPlace(t, q, number, 0x10001, 3, api.ErrState)
	values(t, q, number, 5, api.ErrState)
	noSearch(t, q, number)
	loads(t, q, number, api.ErrState)
	retires(t, q, number, api.ErrOrder)
}
