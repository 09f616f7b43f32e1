package window_test

import (
	"errors"
	"math"
	"testing"

	"oocore/api"
	"oocore/window"
)

func TestNew(t *testing.T) {
	for size := -2; size < 140; size++ {
		for registers := -2; registers < 270; registers++ {
			w, err := window.New(size, registers)
			if size >= 2 && size <= 64 && registers >= 34 && registers <= 128 {
				if w == nil || err != nil {
					t.Fatalf("W1: New(%d, %d) = %v, %v", size, registers, w != nil, err)
				}
			} else if w != nil || !errors.Is(err, api.ErrConfig) {
				t.Fatalf("W1: New(%d, %d) = %v, %v, want ErrConfig", size, registers, w != nil, err)
			}
		}
	}
	for _, n := range []int{math.MinInt, math.MinInt32, 1<<32 + 40, math.MaxInt} {
		for _, c := range [][2]int{{n, 40}, {40, n}, {n, n}} {
			if w, err := window.New(c[0], c[1]); w != nil || !errors.Is(err, api.ErrConfig) {
				t.Errorf("W1: New(%d, %d) = %v, %v, want ErrConfig", c[0], c[1], w != nil, err)
			}
		}
	}
	if api.MinWindow != 2 || api.MaxWindow != 64 {
		t.Errorf("W1: MinWindow %d, MaxWindow %d", api.MinWindow, api.MaxWindow)
	}
}

// A new window is empty, and all registers' values are there.
func TestNewIsEmpty(t *testing.T) {
	for _, registers := range []int{34, 35, 64, 127, 128} {
		w := made(t, 64, registers)
		empty(t, w)
		noRetire(t, w)
		squashes(t, w, -1)
		for _, c := range classes() {
			ready(t, w, c, many)
		}
		for p := range registers {
			enters(t, w, entry(api.Alu, p, registers-1-p, -1), p)
			ready(t, w, api.Alu, many, p)
			through(t, w, p)
			retires(t, w, p)
		}
	}
}

func TestExamples(t *testing.T) {
	w := made(t, 2, 41)
	enters(t, w, entry(api.Alu, -1, -1, 40), 0)
	enters(t, w, entry(api.Alu, 40, -1, -1), 1)
	noEnter(t, w, entry(api.Alu, -1, -1, -1), api.ErrFull)
	ready(t, w, api.Alu, 9, 0)
	issues(t, w, 1, api.ErrState)
	through(t, w, 0)
	wakes(t, w, 40, nil)
	ready(t, w, api.Alu, 9, 1)
	retires(t, w, 0)
	noRetire(t, w)
}

// A window takes as many as its size says, and one more when one is gone.
func TestFull(t *testing.T) {
	for _, size := range []int{2, 3, 4, 31, 63, 64} {
		w := made(t, size, 34)
		for k := range size {
			length(t, w, k)
			enters(t, w, entry(classes()[k%8], -1, -1, -1), k)
		}
		for range 3 {
			noEnter(t, w, entry(api.Alu, -1, -1, 5), api.ErrFull)
		}
		length(t, w, size)
		through(t, w, 0)
		noEnter(t, w, entry(api.Alu, -1, -1, -1), api.ErrFull)
		retires(t, w, 0)
		enters(t, w, entry(api.Jump, 5, 5, -1), size)
		noEnter(t, w, entry(api.Alu, -1, -1, -1), api.ErrFull)
		issues(t, w, size, nil)
		squashes(t, w, size-1, size)
		enters(t, w, entry(api.Alu, -1, -1, -1), size+1)
		noEnter(t, w, entry(api.Alu, -1, -1, -1), api.ErrFull)
	}
}

func TestEnterRange(t *testing.T) {
	for _, registers := range []int{34, 128} {
		w := made(t, 2, registers)
		wrong := func(want error) {
			t.Helper()
			for _, c := range []int{-1, 8, 9, math.MinInt, math.MaxInt, 1 << 32} {
				noEnter(t, w, entry(api.Class(c), -1, -1, 3), want)
			}
			for _, p := range []int{-2, registers, registers + 1, -registers, math.MinInt, math.MaxInt, 1<<32 + 1, 1<<32 - 1} {
				noEnter(t, w, entry(api.Alu, p, -1, 3), want)
				noEnter(t, w, entry(api.Alu, -1, p, 3), want)
				noEnter(t, w, entry(api.Alu, 0, 0, p), want)
				noEnter(t, w, entry(api.Alu, p, p, p), want)
			}
		}
		wrong(api.ErrRange)
		empty(t, w)
		last := registers - 1
		enters(t, w, entry(api.Alu, last, 0, -1), 0)
		enters(t, w, entry(api.System, 0, last, -1), 1)
		wrong(api.ErrRange) // though it is full, too
		noEnter(t, w, entry(api.Alu, -1, -1, 3), api.ErrFull)
		ready(t, w, api.Alu, many, 0)
		ready(t, w, api.System, many, 1)
		squashes(t, w, -1, 1, 0)
		enters(t, w, entry(api.Alu, 3, 3, last), 2)
		enters(t, w, entry(api.Alu, last, last, 0), 3)
		ready(t, w, api.Alu, many, 2)
		squashes(t, w, 2, 3)
		enters(t, w, entry(api.Load, 0, -1, -1), 4)
		ready(t, w, api.Load, many)
		wakes(t, w, 0, nil)
		ready(t, w, api.Load, many, 4)
	}
}

// An Enter that is refused takes no number, and leaves its Dest as it is.
func TestRefusedChangesNothing(t *testing.T) {
	w := made(t, 2, 34)
	noEnter(t, w, entry(8, -1, -1, 7), api.ErrRange)
	noEnter(t, w, entry(api.Alu, 34, -1, 7), api.ErrRange)
	noEnter(t, w, entry(api.Alu, -1, -2, 7), api.ErrRange)
	enters(t, w, entry(api.Alu, 7, -1, -1), 0)
	enters(t, w, entry(api.Alu, -1, 7, -1), 1)
	noEnter(t, w, entry(api.Alu, -1, -1, 7), api.ErrFull)
	ready(t, w, api.Alu, many, 0, 1)
	squashes(t, w, 0, 1)
	enters(t, w, entry(api.Alu, -1, -1, -1), 2)
}

// Numbers go on behind Retire and Squash, even of all.
func TestNumbersAreNotUsedAgain(t *testing.T) {
	w := made(t, 3, 34)
	next := 0
	for round := range 300 {
		first, count := next, 1+round%3
		for range count {
			enters(t, w, entry(api.Alu, -1, -1, -1), next)
			next++
		}
		switch round % 5 {
		case 0, 1:
			squashes(t, w, first, downTo(next-1, first+1)...)
			through(t, w, first)
			retires(t, w, first)
		case 2:
			squashes(t, w, -1, downTo(next-1, first)...)
		default:
			for k := range count {
				through(t, w, first+k)
				retires(t, w, first+k)
			}
		}
		empty(t, w)
		for k := first; k < next; k++ {
			issues(t, w, k, api.ErrState)
		}
	}
}

func downTo(from, to int) []int {
	var list []int
	for k := from; k >= to; k-- {
		list = append(list, k)
	}
	return list
}
