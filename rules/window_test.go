package rules

import (
	"math/rand"
	"slices"
	"testing"

	"oocore/api"
	"oocore/plain"
	"oocore/window"
)

func TestWindowsOfAnyNumbers(t *testing.T) {
	for _, a := range append([]int{2, 64}, extremes...) {
		for _, b := range append([]int{34, 128}, extremes...) {
			w, err := window.New(a, b)
			if (w == nil) != (plain.Told(err) == api.ErrConfig) || (w == nil) != (err != nil) {
				t.Fatalf("P1, P3: New(%d, %d) = %v, %v", a, b, w != nil, err)
			}
		}
	}
}

func TestInstructionsOfAnyNumbers(t *testing.T) {
	w, err := window.New(64, 40)
	if err != nil {
		t.Fatal(err)
	}
	for _, a := range extremes {
		for _, b := range extremes {
			for _, c := range extremes {
				for _, e := range []api.Entry{{Class: api.Class(a), Src1: b, Src2: c, Dest: -1}, {Class: api.Alu, Src1: a, Src2: b, Dest: c}} {
					n, err := w.Enter(e)
					if told := plain.Told(err); told != api.OK && told != api.ErrRange && told != api.ErrFull || told != api.OK && n != 0 {
						t.Errorf("P1, P3: Enter(%+v) = %d, %v", e, n, err)
					}
				}
			}
			if told := plain.Told(w.Wake(b)); told != api.OK && told != api.ErrRange {
				t.Errorf("P3: Wake(%d): %v", b, told)
			}
			for _, n := range w.Ready(api.Class(a), b) {
				if err := w.Issue(n); err != nil {
					t.Errorf("P1: Issue(%d), which is ready: %v", n, err)
				}
			}
			for _, err := range []error{w.Issue(b), w.Again(b), w.Done(b)} {
				if told := plain.Told(err); told != api.OK && told != api.ErrState {
					t.Errorf("P3: number %d: %v", b, told)
				}
			}
		}
		if n, err := w.Retire(); err != nil && (n != 0 || plain.Told(err) != api.ErrState) {
			t.Errorf("P1, P3: Retire() = %d, %v", n, err)
		}
		before := w.Len()
		if gone := w.Squash(a); w.Len()+len(gone) != before {
			t.Errorf("P1: Squash(%d) tells %d, and there were %d and are %d", a, len(gone), before, w.Len())
		}
	}
}

// The same calls on two windows are answered alike, whatever a third one is told in between, and whatever becomes of the lists that were told.
func TestWindowsAreApart(t *testing.T) {
	r := rand.New(rand.NewSource(23))
	a, _ := window.New(6, 34)
	b, _ := window.New(6, 34)
	other, _ := window.New(6, 34)
	for range 5000 {
		e := api.Entry{Class: api.Class(r.Intn(2)), Src1: r.Intn(5) - 1, Src2: r.Intn(5) - 1, Dest: r.Intn(5) - 1}
		seed := r.Int63()
		first := round(a, e, rand.New(rand.NewSource(seed)))
		round(other, e, r)
		if second := round(b, e, rand.New(rand.NewSource(seed))); !slices.Equal(first, second) {
			t.Fatalf("P2: %v, and of another window %v", first, second)
		}
	}
}

// round takes a window some steps on; all that it answered, in one list.
func round(w *window.Window, e api.Entry, r *rand.Rand) []int {
	n, err := w.Enter(e)
	told := []int{n, int(plain.Told(err))}
	for _, k := range w.Ready(e.Class, r.Intn(4)) {
		told = append(told, k, int(plain.Told(w.Issue(k))))
		if r.Intn(3) > 0 {
			told = append(told, int(plain.Told(w.Done(k))))
		}
	}
	oldest, _, _ := w.Head()
	one, two := oldest+r.Intn(4), oldest+r.Intn(4)
	told = append(told, int(plain.Told(w.Wake(r.Intn(4)))), int(plain.Told(w.Again(one))), int(plain.Told(w.Done(two))))
	n, err = w.Retire()
	told = append(told, n, int(plain.Told(err)))
	if r.Intn(9) == 0 {
		gone := w.Squash(oldest + r.Intn(4))
		told = append(told, gone...)
		for k := range gone {
			gone[k] = -7
		}
	}
	list := w.Ready(e.Class, 9)
	told = append(told, list...)
	for k := range list {
		list[k] = -5
	}
	return append(told, w.Len())
}
