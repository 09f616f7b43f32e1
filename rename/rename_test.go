package rename_test

import (
	"errors"
	"math"
	"testing"

	"oocore/api"
	"oocore/rename"
)

func TestNew(t *testing.T) {
	for n := -4; n < 300; n++ {
		x, err := rename.New(n)
		if n >= 34 && n <= 128 {
			if x == nil || err != nil {
				t.Fatalf("N1: New(%d) = %v, %v", n, x != nil, err)
			}
			stands(t, "N1", x, n-32, nil)
		} else if x != nil || !errors.Is(err, api.ErrConfig) {
			t.Errorf("N1: New(%d) = %v, %v, want ErrConfig", n, x != nil, err)
		}
	}
	for _, n := range []int{math.MinInt, math.MinInt32, 1<<32 + 40, math.MaxInt} {
		if x, err := rename.New(n); x != nil || !errors.Is(err, api.ErrConfig) {
			t.Errorf("N1: New(%d) = %v, %v, want ErrConfig", n, x != nil, err)
		}
	}
	if api.MinRegisters != 34 || api.MaxRegisters != 128 {
		t.Errorf("N1: MinRegisters %d, MaxRegisters %d", api.MinRegisters, api.MaxRegisters)
	}
}

func TestExamples(t *testing.T) {
	x := made(t, 34)
	takes(t, x, 5, 32, 5)
	takes(t, x, 5, 33, 32)
	noTake(t, x, 6, api.ErrFull)
	undoes(t, x, 5, 33, 32, nil)
	stands(t, "N3", x, 1, map[int]int{5: 32})
	releases(t, x, 5, nil)
	stands(t, "N4", x, 2, map[int]int{5: 32})
	takes(t, x, 7, 33, 7)
	releases(t, x, 5, api.ErrFree)
	releases(t, x, 32, api.ErrFree)
}

func TestLook(t *testing.T) {
	x := made(t, 40)
	for _, r := range []int{-1, 32, 33, 39, 40, -32, math.MinInt, math.MaxInt, 1 << 32} {
		if got := x.Look(r); got != -1 {
			t.Errorf("N1: Look(%d) = %d, want -1", r, got)
		}
	}
	takes(t, x, 1, 32, 1)
	takes(t, x, 31, 33, 31)
	takes(t, x, 1, 34, 32)
	stands(t, "N1", x, 5, map[int]int{1: 34, 31: 33})
}

// All free names are taken, in their order, to the last one.
func TestTakeToTheLast(t *testing.T) {
	for _, n := range []int{34, 35, 63, 64, 65, 96, 127, 128} {
		x := made(t, n)
		names := map[int]int{}
		for k := range n - 32 {
			r := 1 + k%31
			old, ok := names[r]
			if !ok {
				old = r
			}
			takes(t, x, r, 32+k, old)
			names[r] = 32 + k
			stands(t, "N2", x, n-33-k, names)
		}
		for r := 1; r < 32; r++ {
			noTake(t, x, r, api.ErrFull)
		}
		stands(t, "N2: behind ErrFull", x, 0, names)
	}
}

func TestTakeOutOfRange(t *testing.T) {
	wrong := []int{0, -1, 32, 33, 39, math.MinInt, math.MaxInt, 1<<32 + 5}
	x := made(t, 34)
	for _, r := range wrong {
		noTake(t, x, r, api.ErrRange)
	}
	stands(t, "N2: behind ErrRange", x, 2, nil)
	takes(t, x, 5, 32, 5)
	takes(t, x, 5, 33, 32)
	for _, r := range wrong {
		noTake(t, x, r, api.ErrRange)
	}
	noTake(t, x, 1, api.ErrFull)
	noTake(t, x, 31, api.ErrFull)
	stands(t, "N2: behind ErrRange", x, 0, map[int]int{5: 33})
}

// A name that was undone is the first of all, the last undone ahead of those before it.
func TestUndoneComesFirst(t *testing.T) {
	x := made(t, 38)
	takes(t, x, 5, 32, 5)
	takes(t, x, 6, 33, 6)
	takes(t, x, 5, 34, 32)
	undoes(t, x, 5, 34, 32, nil)
	undoes(t, x, 6, 33, 6, nil)
	undoes(t, x, 5, 32, 5, nil)
	stands(t, "N3: all are undone", x, 6, nil)
	for k := range 6 {
		takes(t, x, 9, 32+k, []int{9, 32, 33, 34, 35, 36}[k])
	}
	noTake(t, x, 9, api.ErrFull)
}

// Names are undone in another order than they were taken in.
func TestUndoOutOfOrder(t *testing.T) {
	x := made(t, 36)
	takes(t, x, 5, 32, 5)
	takes(t, x, 6, 33, 6)
	undoes(t, x, 5, 32, 5, nil)
	undoes(t, x, 6, 33, 6, nil)
	takes(t, x, 7, 33, 7)
	takes(t, x, 7, 32, 33)
	takes(t, x, 7, 34, 32)
}

// A name that was released is the last of all, those before it ahead of it.
func TestReleasedComesLast(t *testing.T) {
	x := made(t, 36)
	takes(t, x, 5, 32, 5)
	takes(t, x, 6, 33, 6)
	releases(t, x, 6, nil)
	releases(t, x, 5, nil)
	stands(t, "N4", x, 4, map[int]int{5: 32, 6: 33})
	takes(t, x, 1, 34, 1)
	takes(t, x, 1, 35, 34)
	takes(t, x, 1, 6, 35)
	takes(t, x, 1, 5, 6)
	noTake(t, x, 1, api.ErrFull)
	stands(t, "N4", x, 0, map[int]int{1: 5, 5: 32, 6: 33})
}

// The first free name and the last one, with names undone and released when none is free.
func TestLastFreeName(t *testing.T) {
	x := made(t, 34)
	takes(t, x, 3, 32, 3)
	takes(t, x, 4, 33, 4)
	undoes(t, x, 4, 33, 4, nil)
	stands(t, "N3", x, 1, map[int]int{3: 32})
	takes(t, x, 4, 33, 4)
	releases(t, x, 3, nil)
	stands(t, "N4", x, 1, map[int]int{3: 32, 4: 33})
	takes(t, x, 31, 3, 31)
	noTake(t, x, 31, api.ErrFull)
	releases(t, x, 4, nil)
	undoes(t, x, 31, 3, 31, nil)
	takes(t, x, 1, 3, 1)
	takes(t, x, 2, 4, 2)
	noTake(t, x, 1, api.ErrFull)
}

// ErrRange of the register or of the old name, whatever else is wrong.
func TestUndoOutOfRange(t *testing.T) {
	x := made(t, 40)
	takes(t, x, 5, 32, 5)
	takes(t, x, 1, 33, 1)
	takes(t, x, 31, 34, 31)
	for _, r := range []int{0, -1, 32, 33, math.MinInt, math.MaxInt, 1<<32 + 5} {
		undoes(t, x, r, 32, 5, api.ErrRange)
		undoes(t, x, r, r, 5, api.ErrRange)
		undoes(t, x, r, 99, 7, api.ErrRange)
	}
	for _, old := range []int{0, -1, 40, 41, 127, 128, math.MinInt, math.MaxInt, 1<<32 + 5} {
		undoes(t, x, 5, 32, old, api.ErrRange)
		undoes(t, x, 5, 33, old, api.ErrRange)
		undoes(t, x, 0, 0, old, api.ErrRange)
	}
	stands(t, "N3: behind ErrRange", x, 5, map[int]int{5: 32, 1: 33, 31: 34})
	undoes(t, x, 1, 33, 1, nil)
	undoes(t, x, 31, 34, 31, nil)
	takes(t, x, 1, 34, 1)
}

func TestUndoOfAnother(t *testing.T) {
	x := made(t, 40)
	takes(t, x, 5, 32, 5)
	takes(t, x, 5, 33, 32)
	takes(t, x, 6, 34, 6)
	names := map[int]int{5: 33, 6: 34}
	for _, fresh := range []int{32, 5, 34, 35, 0, -1, 40, math.MinInt, math.MaxInt, 1<<32 + 33} {
		undoes(t, x, 5, fresh, 32, api.ErrOrder)
	}
	for _, old := range []int{33, 34, 7, 35, 39, 1, 31} {
		undoes(t, x, 5, 33, old, api.ErrOrder)
	}
	stands(t, "N3: behind ErrOrder", x, 5, names)
	undoes(t, x, 5, 33, 32, nil)
	undoes(t, x, 5, 33, 32, api.ErrOrder)
	releases(t, x, 5, nil)
	undoes(t, x, 5, 32, 5, api.ErrOrder)
	stands(t, "N3: behind a name that was released", x, 7, map[int]int{5: 32, 6: 34})
}

// The chapter asks only that old is held, not that it was this register's.
func TestUndoToAnyHeldName(t *testing.T) {
	x := made(t, 36)
	takes(t, x, 5, 32, 5)
	takes(t, x, 6, 33, 6)
	undoes(t, x, 5, 32, 6, nil)
	stands(t, "N3", x, 3, map[int]int{5: 6, 6: 33})
	undoes(t, x, 7, 7, 5, nil)
	stands(t, "N3", x, 4, map[int]int{5: 6, 6: 33, 7: 5})
	takes(t, x, 1, 7, 1)
	takes(t, x, 1, 32, 7)
	takes(t, x, 1, 34, 32)
	takes(t, x, 1, 35, 34)
	noTake(t, x, 1, api.ErrFull)
}

func TestReleaseErrors(t *testing.T) {
	for _, n := range []int{34, 40, 128} {
		x := made(t, n)
		for _, p := range []int{0, -1, n, n + 1, math.MinInt, math.MaxInt, 1<<32 + 5} {
			releases(t, x, p, api.ErrRange)
		}
		for p := 1; p < n; p++ {
			releases(t, x, p, api.ErrFree)
		}
		stands(t, "N4: behind errors", x, n-32, nil)
		takes(t, x, 5, 32, 5)
		takes(t, x, 5, 33, 32)
		for p := 1; p < n; p++ {
			if p != 5 && p != 32 {
				releases(t, x, p, api.ErrFree)
			}
		}
		releases(t, x, 32, nil)
		releases(t, x, 5, nil)
		releases(t, x, 5, api.ErrFree)
		releases(t, x, 32, api.ErrFree)
		stands(t, "N4", x, n-32, map[int]int{5: 33})
	}
}

// The last name of all, n - 1, is one as others are.
func TestLastName(t *testing.T) {
	for _, n := range []int{34, 128} {
		x := made(t, n)
		for range n - 33 {
			if _, _, err := x.Take(2); err != nil {
				t.Fatalf("N2: %v", err)
			}
		}
		takes(t, x, 3, n-1, 3)
		releases(t, x, 3, nil)
		takes(t, x, 3, 3, n-1)
		undoes(t, x, 3, 3, n-1, nil)
		takes(t, x, 3, 3, n-1)
		releases(t, x, n-1, nil)
		takes(t, x, 4, n-1, 4)
	}
}

func TestRegisterZero(t *testing.T) {
	x := made(t, 34)
	for range 200 {
		noTake(t, x, 0, api.ErrRange)
		undoes(t, x, 0, 0, 5, api.ErrRange)
		undoes(t, x, 0, 0, 0, api.ErrRange)
		releases(t, x, 0, api.ErrRange)
		fresh, old, err := x.Take(8)
		if fresh == 0 || old == 0 || err != nil || x.Release(old) != nil || x.Look(0) != 0 {
			t.Fatalf("N1: register 0 has the name %d behind Take = %d, %d, %v", x.Look(0), fresh, old, err)
		}
	}
}
