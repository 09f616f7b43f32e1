package rename_test

import (
	"errors"
	"testing"

	"oocore/rename"
)

func made(t *testing.T, n int) *rename.Table {
	t.Helper()
	x, err := rename.New(n)
	if err != nil || x == nil {
		t.Fatalf("N1: New(%d) = %v, %v", n, x != nil, err)
	}
	return x
}

func takes(t *testing.T, x *rename.Table, r, fresh, old int) {
	t.Helper()
	if a, b, err := x.Take(r); a != fresh || b != old || err != nil {
		t.Errorf("N2: Take(%d) = %d, %d, %v, want %d, %d", r, a, b, err, fresh, old)
	}
}

func noTake(t *testing.T, x *rename.Table, r int, want error) {
	t.Helper()
	if a, b, err := x.Take(r); a != 0 || b != 0 || !errors.Is(err, want) {
		t.Errorf("N2: Take(%d) = %d, %d, %v, want %v", r, a, b, err, want)
	}
}

func undoes(t *testing.T, x *rename.Table, r, fresh, old int, want error) {
	t.Helper()
	if err := x.Undo(r, fresh, old); !errors.Is(err, want) {
		t.Errorf("N3: Undo(%d, %d, %d) = %v, want %v", r, fresh, old, err, want)
	}
}

func releases(t *testing.T, x *rename.Table, p int, want error) {
	t.Helper()
	if err := x.Release(p); !errors.Is(err, want) {
		t.Errorf("N4: Release(%d) = %v, want %v", p, err, want)
	}
}

// stands tells all that Look and Free answer: names that are not listed are the registers' own.
func stands(t *testing.T, what string, x *rename.Table, free int, names map[int]int) {
	t.Helper()
	if x.Free() != free {
		t.Errorf("%s: %d names are free, want %d", what, x.Free(), free)
	}
	for r := range 32 {
		want, ok := names[r]
		if !ok {
			want = r
		}
		if got := x.Look(r); got != want {
			t.Errorf("%s: Look(%d) = %d, want %d", what, r, got, want)
		}
	}
}
