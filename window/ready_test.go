package window_test

import (
	"math"
	"testing"

	"oocore/api"
)

func TestWakeRange(t *testing.T) {
	for _, registers := range []int{34, 128} {
		w := made(t, 2, registers)
		enters(t, w, entry(api.Alu, -1, -1, 0), 0)
		enters(t, w, entry(api.Alu, 0, -1, registers-1), 1)
		for _, p := range []int{-1, -2, registers, registers + 1, 1 << 32, math.MinInt, math.MaxInt} {
			wakes(t, w, p, api.ErrRange)
		}
		ready(t, w, api.Alu, many, 0)
		for p := range registers {
			wakes(t, w, p, nil)
		}
		ready(t, w, api.Alu, many, 0, 1)
		wakes(t, w, 0, nil) // it was there
		ready(t, w, api.Alu, many, 0, 1)
	}
}

// Each of a chain waits until what the one ahead writes is there; others do not.
func TestChain(t *testing.T) {
	const links = 10
	w := made(t, 2*links, 48)
	for k := range links {
		src := 33 + k
		if k == 0 {
			src = -1
		}
		if k%2 == 0 {
			enters(t, w, entry(api.Alu, src, -1, 34+k), 2*k)
		} else {
			enters(t, w, entry(api.Alu, 2, src, 34+k), 2*k)
		}
		enters(t, w, entry(api.Branch, -1, -1, -1), 2*k+1)
	}
	ready(t, w, api.Branch, many, 1, 3, 5, 7, 9, 11, 13, 15, 17, 19)
	for k := range links {
		ready(t, w, api.Alu, many, 2*k)
		issues(t, w, 2*k, nil)
		ready(t, w, api.Alu, many)
		does(t, w, 2*k, nil)
		ready(t, w, api.Alu, many)
		if k+1 < links {
			issues(t, w, 2*k+2, api.ErrState)
		}
		wakes(t, w, 34+k, nil)
	}
	for k := range links {
		through(t, w, 2*k+1)
	}
	for k := range 2 * links {
		retires(t, w, k)
	}
	empty(t, w)
}

// Every one of the classes is ready for itself alone.
func TestClasses(t *testing.T) {
	w := made(t, 16, 34)
	for k := range 16 {
		enters(t, w, entry(classes()[k%8], k, -1, -1), k)
	}
	for _, c := range classes() {
		ready(t, w, c, many, int(c), int(c)+8)
	}
	for _, c := range []int{-1, 8, 16, math.MinInt, math.MaxInt, 1 << 32} {
		ready(t, w, api.Class(c), many)
	}
	for k := range 16 {
		through(t, w, k)
	}
	for k := range 16 {
		retires(t, w, k)
	}
}

func TestMost(t *testing.T) {
	w := made(t, 64, 34)
	for k := range 64 {
		enters(t, w, entry(classes()[k%2], -1, -1, -1), k)
	}
	for _, most := range []int{0, -1, -2, math.MinInt} {
		ready(t, w, api.Alu, most)
	}
	var want []int
	for most := 1; most <= 32; most++ {
		want = append(want, 2*most-2)
		ready(t, w, api.Alu, most, want...)
	}
	for _, most := range []int{33, 64, 65, math.MaxInt} {
		ready(t, w, api.Alu, most, want...)
	}
	issues(t, w, 0, nil)
	issues(t, w, 4, nil)
	ready(t, w, api.Alu, 1, 2)
	ready(t, w, api.Alu, 3, 2, 6, 8)
}

// Both sources are asked, each of them alone.
func TestBothSources(t *testing.T) {
	w := made(t, 8, 40)
	enters(t, w, entry(api.Load, -1, -1, 35), 0)
	enters(t, w, entry(api.Load, -1, -1, 36), 1)
	enters(t, w, entry(api.Alu, 35, 36, -1), 2)
	enters(t, w, entry(api.Alu, 36, 35, -1), 3)
	enters(t, w, entry(api.Alu, 35, -1, -1), 4)
	enters(t, w, entry(api.Alu, -1, 36, -1), 5)
	enters(t, w, entry(api.Alu, 36, 36, -1), 6)
	enters(t, w, entry(api.Alu, 37, 34, -1), 7)
	ready(t, w, api.Alu, many, 7)
	wakes(t, w, 36, nil)
	ready(t, w, api.Alu, many, 5, 6, 7)
	issues(t, w, 2, api.ErrState)
	issues(t, w, 3, api.ErrState)
	wakes(t, w, 35, nil)
	ready(t, w, api.Alu, many, 2, 3, 4, 5, 6, 7)
}

// Who writes what it reads waits for itself, as the words say: its Dest is not there any more.
func TestDestIsItsSource(t *testing.T) {
	w := made(t, 4, 34)
	enters(t, w, entry(api.Alu, 9, -1, 9), 0)
	enters(t, w, entry(api.Alu, -1, 10, 10), 1)
	enters(t, w, entry(api.Alu, 0, 0, 0), 2)
	ready(t, w, api.Alu, many)
	for k := range 3 {
		issues(t, w, k, api.ErrState)
	}
	wakes(t, w, 10, nil)
	ready(t, w, api.Alu, many, 1)
	wakes(t, w, 0, nil)
	ready(t, w, api.Alu, many, 1, 2)
	issues(t, w, 0, api.ErrState)
	wakes(t, w, 9, nil)
	issues(t, w, 0, nil)
}

// A later writer takes the value away from an older one that waits, too.
func TestLaterWriter(t *testing.T) {
	w := made(t, 4, 34)
	enters(t, w, entry(api.Alu, 9, -1, -1), 0)
	enters(t, w, entry(api.Alu, 9, -1, -1), 1)
	issues(t, w, 0, nil)
	enters(t, w, entry(api.Alu, -1, -1, 9), 2)
	ready(t, w, api.Alu, many, 2)
	issues(t, w, 1, api.ErrState)
	again(t, w, 0, nil)
	ready(t, w, api.Alu, many, 2)
	issues(t, w, 0, api.ErrState)
	wakes(t, w, 9, nil)
	ready(t, w, api.Alu, many, 0, 1, 2)
}

// Neither Done, nor Retire, nor Squash, nor Again lets a value be there; Wake alone does.
func TestWakeAlone(t *testing.T) {
	w := made(t, 3, 34)
	enters(t, w, entry(api.Alu, -1, -1, 20), 0)
	enters(t, w, entry(api.Alu, -1, -1, 21), 1)
	enters(t, w, entry(api.Alu, 20, -1, -1), 2)
	issues(t, w, 0, nil)
	again(t, w, 0, nil)
	ready(t, w, api.Alu, many, 0, 1)
	through(t, w, 0)
	ready(t, w, api.Alu, many, 1)
	retires(t, w, 0)
	ready(t, w, api.Alu, many, 1)
	squashes(t, w, 0, 2, 1)
	enters(t, w, entry(api.Alu, 21, -1, -1), 3)
	enters(t, w, entry(api.Alu, -1, 20, -1), 4)
	ready(t, w, api.Alu, many)
	wakes(t, w, 21, nil)
	ready(t, w, api.Alu, many, 3)
	wakes(t, w, 20, nil)
	ready(t, w, api.Alu, many, 3, 4)
}

// What is told is the caller's: to write into it, or behind it, changes nothing.
func TestReadyIsTheCallers(t *testing.T) {
	w := made(t, 8, 34)
	for k := range 8 {
		enters(t, w, entry(api.Alu, -1, -1, -1), k)
	}
	a, b := w.Ready(api.Alu, 5), w.Ready(api.Alu, 5)
	spoil(a)
	for k, n := range b {
		if n != k {
			t.Fatalf("P2: a list that was told became %v", b)
		}
	}
	ready(t, w, api.Alu, 5, 0, 1, 2, 3, 4)
	c, d := w.Squash(5), w.Ready(api.Alu, many)
	spoil(c)
	spoil(b)
	for k, n := range d {
		if n != k {
			t.Fatalf("P2: a list that was told became %v", d)
		}
	}
	spoil(d)
	ready(t, w, api.Alu, many, 0, 1, 2, 3, 4, 5)
	head(t, w, 0, false)
	squashes(t, w, -1, 5, 4, 3, 2, 1, 0)
}

func spoil(list []int) {
	list = list[:cap(list)]
	for k := range list {
		list[k] = 77
	}
}
