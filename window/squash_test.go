package window_test

import (
	"math"
	"testing"

	"oocore/api"
	"oocore/window"
)

// filled has size instructions: 0, 3, .. are done, 1, 4, .. issued, and the others wait.
func filled(t *testing.T, size int) *window.Window {
	t.Helper()
	w := made(t, size, 34)
	for k := range size {
		enters(t, w, entry(api.Alu, -1, -1, -1), k)
		switch k % 3 {
		case 0:
			through(t, w, k)
		case 1:
			issues(t, w, k, nil)
		}
	}
	return w
}

// leaves squashes a window that is filled, so that the oldest ones stay, so many.
func leaves(t *testing.T, size, after, stay int) {
	t.Helper()
	w := filled(t, size)
	squashes(t, w, after, downTo(size-1, stay)...)
	length(t, w, stay)
	var waiting []int
	for k := 2; k < stay; k += 3 {
		waiting = append(waiting, k)
	}
	ready(t, w, api.Alu, many, waiting...)
	for k := stay; k < size; k++ {
		issues(t, w, k, api.ErrState)
		again(t, w, k, api.ErrState)
		does(t, w, k, api.ErrState)
	}
	if stay == size {
		noEnter(t, w, entry(api.Jump, -1, -1, -1), api.ErrFull)
		return
	}
	enters(t, w, entry(api.Jump, -1, -1, -1), size)
	ready(t, w, api.Jump, many, size)
	length(t, w, stay+1)
}

func TestSquash(t *testing.T) {
	for _, size := range []int{2, 3, 7, 64} {
		for after := -1; after < size; after++ {
			leaves(t, size, after, after+1)
		}
		for _, after := range []int{-2, -64, math.MinInt, -1 << 32} {
			leaves(t, size, after, 0)
		}
		for _, after := range []int{size, size + 1, math.MaxInt, 1 << 32} {
			leaves(t, size, after, size)
		}
	}
}

// Numbers between which others were thrown away: all greater ones go, whether the number itself is in or not.
func TestSquashBehindGaps(t *testing.T) {
	w := made(t, 6, 34)
	for k := range 6 {
		enters(t, w, entry(api.Alu, -1, -1, -1), k)
	}
	squashes(t, w, 2, 5, 4, 3)
	for k := range 3 {
		enters(t, w, entry(api.Alu, -1, -1, -1), 6+k)
	}
	through(t, w, 0)
	retires(t, w, 0)
	squashes(t, w, 8)
	squashes(t, w, 7, 8)
	squashes(t, w, 4, 7, 6)
	squashes(t, w, 4)
	ready(t, w, api.Alu, many, 1, 2)
	enters(t, w, entry(api.Alu, -1, -1, -1), 9)
	squashes(t, w, 0, 9, 2, 1)
	empty(t, w)
	squashes(t, w, math.MinInt)
	enters(t, w, entry(api.Alu, -1, -1, -1), 10)
	head(t, w, 10, false)
}

// Those that stay are as they were.
func TestSquashLeavesTheOlder(t *testing.T) {
	w := made(t, 5, 34)
	enters(t, w, entry(api.Alu, -1, -1, 30), 0)
	enters(t, w, entry(api.Alu, 30, -1, 31), 1)
	enters(t, w, entry(api.Alu, -1, -1, -1), 2)
	enters(t, w, entry(api.Alu, 31, -1, 30), 3)
	enters(t, w, entry(api.Alu, -1, -1, -1), 4)
	through(t, w, 0)
	issues(t, w, 2, nil)
	issues(t, w, 4, nil)
	squashes(t, w, 2, 4, 3)
	head(t, w, 0, true)
	does(t, w, 2, nil)
	issues(t, w, 1, api.ErrState)
	wakes(t, w, 30, nil)
	through(t, w, 1)
	for k := range 3 {
		retires(t, w, k)
	}
	empty(t, w)
}
