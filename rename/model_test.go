package rename_test

import (
	"errors"
	"math/rand"
	"slices"
	"testing"

	"oocore/api"
	"oocore/rename"
)

// model is a second reading of the chapter, in another shape than the program: three lists, in one of which each name stands.
type model struct {
	n                 int
	named, free, held []int
}

func newModel(n int) *model {
	m := &model{n: n}
	for p := range n {
		if p < 32 {
			m.named = append(m.named, p)
		} else {
			m.free = append(m.free, p)
		}
	}
	return m
}

func (m *model) take(r int) (int, int, error) {
	if r <= 0 || r > 31 {
		return 0, 0, api.ErrRange
	}
	if len(m.free) == 0 {
		return 0, 0, api.ErrFull
	}
	fresh, old := m.free[0], m.named[r]
	m.free = slices.Delete(m.free, 0, 1)
	m.named[r] = fresh
	m.held = append(m.held, old)
	return fresh, old, nil
}

func (m *model) undo(r, fresh, old int) error {
	if r <= 0 || r > 31 || old <= 0 || old > m.n-1 {
		return api.ErrRange
	}
	at := slices.Index(m.held, old)
	if m.named[r] != fresh || at < 0 {
		return api.ErrOrder
	}
	m.held = slices.Delete(m.held, at, at+1)
	m.named[r] = old
	m.free = slices.Insert(m.free, 0, fresh)
	return nil
}

func (m *model) release(p int) error {
	if p <= 0 || p > m.n-1 {
		return api.ErrRange
	}
	at := slices.Index(m.held, p)
	if at < 0 {
		return api.ErrFree
	}
	m.held = slices.Delete(m.held, at, at+1)
	m.free = append(m.free, p)
	return nil
}

type taken struct{ r, fresh, old int }

// pick is most often one that was taken, the last one before all.
func pick(r *rand.Rand, was []taken, n int) taken {
	if len(was) == 0 || r.Intn(6) == 0 {
		return taken{r.Intn(34) - 1, r.Intn(n+2) - 1, r.Intn(n+2) - 1}
	}
	if r.Intn(2) == 0 {
		return was[len(was)-1]
	}
	return was[r.Intn(len(was))]
}

func script(t *testing.T, r *rand.Rand, steps int) {
	t.Helper()
	n := 34 + r.Intn(95)
	if r.Intn(2) == 0 {
		n = 34 + r.Intn(6)
	}
	x, m := made(t, n), newModel(n)
	eager := 1 + r.Intn(4)
	var was []taken
	for step := range steps {
		switch c := pick(r, was, n); {
		case r.Intn(4) < eager:
			a, b, err := x.Take(c.r)
			fresh, old, want := m.take(c.r)
			if a != fresh || b != old || !errors.Is(err, want) {
				t.Fatalf("N2: n %d, step %d: Take(%d) = %d, %d, %v, want %d, %d, %v", n, step, c.r, a, b, err, fresh, old, want)
			}
			if err == nil {
				was = append(was, taken{c.r, fresh, old})
			}
		case r.Intn(2) == 0:
			if err, want := x.Undo(c.r, c.fresh, c.old), m.undo(c.r, c.fresh, c.old); !errors.Is(err, want) {
				t.Fatalf("N3: n %d, step %d: Undo(%d, %d, %d) = %v, want %v", n, step, c.r, c.fresh, c.old, err, want)
			}
		default:
			if err, want := x.Release(c.old), m.release(c.old); !errors.Is(err, want) {
				t.Fatalf("N4: n %d, step %d: Release(%d) = %v, want %v", n, step, c.old, err, want)
			}
		}
		agrees(t, x, m)
	}
}

func agrees(t *testing.T, x *rename.Table, m *model) {
	t.Helper()
	if x.Free() != len(m.free) {
		t.Fatalf("N1: Free() = %d, want %d", x.Free(), len(m.free))
	}
	for r := -1; r <= 32; r++ {
		want := -1
		if r >= 0 && r < 32 {
			want = m.named[r]
		}
		if got := x.Look(r); got != want {
			t.Fatalf("N1: Look(%d) = %d, want %d", r, got, want)
		}
	}
}

func TestScripts(t *testing.T) {
	r := rand.New(rand.NewSource(13))
	for range 2000 {
		script(t, r, 400)
	}
}
