package window_test

import (
	"math"
	"testing"

	"oocore/api"
)

// Issue, Again and Done in each state: waiting, issued, done, gone, not come yet.
func TestStates(t *testing.T) {
	w := made(t, 2, 34)
	enters(t, w, entry(api.Muldiv, 3, 4, 5), 0)
	again(t, w, 0, api.ErrState)
	does(t, w, 0, api.ErrState)
	ready(t, w, api.Muldiv, many, 0)

	issues(t, w, 0, nil)
	issues(t, w, 0, api.ErrState)
	ready(t, w, api.Muldiv, many)
	head(t, w, 0, false)

	again(t, w, 0, nil)
	again(t, w, 0, api.ErrState)
	does(t, w, 0, api.ErrState)
	ready(t, w, api.Muldiv, many, 0)
	head(t, w, 0, false)

	issues(t, w, 0, nil)
	does(t, w, 0, nil)
	issues(t, w, 0, api.ErrState)
	again(t, w, 0, api.ErrState)
	does(t, w, 0, api.ErrState)
	ready(t, w, api.Muldiv, many)
	head(t, w, 0, true)
	length(t, w, 1)

	retires(t, w, 0)
	for _, n := range []int{0, 1, 2, -1, math.MinInt, math.MaxInt} {
		issues(t, w, n, api.ErrState)
		again(t, w, n, api.ErrState)
		does(t, w, n, api.ErrState)
	}
	empty(t, w)
	enters(t, w, entry(api.Alu, -1, -1, -1), 1)
	ready(t, w, api.Alu, many, 1)
}

// A number that is not in is refused, though others are in: the same place in a list is not the same number.
func TestNumbersThatAreNotIn(t *testing.T) {
	w := made(t, 4, 34)
	for k := range 4 {
		enters(t, w, entry(api.Alu, -1, -1, -1), k)
	}
	through(t, w, 0)
	retires(t, w, 0)
	squashes(t, w, 1, 3, 2)
	enters(t, w, entry(api.Alu, -1, -1, -1), 4)
	for _, n := range []int{-1, 0, 2, 3, 5, 6, 1 << 32, 1<<32 + 1, math.MinInt, math.MaxInt} {
		issues(t, w, n, api.ErrState)
	}
	ready(t, w, api.Alu, many, 1, 4)
	issues(t, w, 1, nil)
	issues(t, w, 4, nil)
	for _, n := range []int{-1, 0, 2, 3, 5, 6, 1 << 32, 1<<32 + 1, math.MinInt, math.MaxInt} {
		again(t, w, n, api.ErrState)
		does(t, w, n, api.ErrState)
	}
	head(t, w, 1, false)
	does(t, w, 4, nil)
	head(t, w, 1, false)
	does(t, w, 1, nil)
	head(t, w, 1, true)
	retires(t, w, 1)
	head(t, w, 4, true)
}

// What has begun stays as it is, whatever becomes of the values that it reads.
func TestIssuedKeepsOn(t *testing.T) {
	w := made(t, 4, 34)
	enters(t, w, entry(api.Alu, 6, 7, -1), 0)
	enters(t, w, entry(api.Alu, 6, 7, -1), 1)
	issues(t, w, 0, nil)
	issues(t, w, 1, nil)
	enters(t, w, entry(api.Load, -1, -1, 6), 2)
	enters(t, w, entry(api.Load, -1, -1, 7), 3)
	does(t, w, 0, nil)
	again(t, w, 1, nil)
	ready(t, w, api.Alu, many)
	wakes(t, w, 6, nil)
	issues(t, w, 1, api.ErrState)
	wakes(t, w, 7, nil)
	ready(t, w, api.Alu, many, 1)
	through(t, w, 1)
}

// Younger ones may be done ahead of older ones; they go out in order.
func TestOutOfOrder(t *testing.T) {
	w := made(t, 8, 34)
	for k := range 8 {
		enters(t, w, entry(classes()[k], -1, -1, -1), k)
	}
	for k := 7; k > 0; k-- {
		through(t, w, k)
		head(t, w, 0, false)
		noRetire(t, w)
	}
	length(t, w, 8)
	issues(t, w, 0, nil)
	noRetire(t, w)
	does(t, w, 0, nil)
	for k := range 8 {
		head(t, w, k, true)
		retires(t, w, k)
		length(t, w, 7-k)
	}
	empty(t, w)
	noRetire(t, w)
}
