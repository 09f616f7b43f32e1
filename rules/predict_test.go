package rules

import (
	"math/rand"
	"testing"

	"oocore/api"
	"oocore/plain"
	"oocore/predict"
	"oocore/rename"
)

func TestPredictorsOfAnyNumbers(t *testing.T) {
	for _, a := range extremes {
		for _, b := range extremes {
			for _, c := range extremes {
				for _, g := range []api.Guessing{{Kind: a, Bits: b, History: c, Targets: 1, Returns: 1}, {Kind: 1, Bits: 1, History: a, Targets: b, Returns: c}} {
					p, err := predict.New(g)
					if (p == nil) != (plain.Told(err) == api.ErrConfig) || (p == nil) != (err != nil) {
						t.Fatalf("P1, P3: New(%+v) = %v, %v", g, p != nil, err)
					}
				}
			}
		}
	}
}

func TestGuessesOfAnyNumbers(t *testing.T) {
	for kind := range 4 {
		p, err := predict.New(api.Guessing{Kind: kind, Bits: 3, History: 3, Targets: 2, Returns: 3})
		if err != nil {
			t.Fatal(err)
		}
		for _, op := range append([]int{3, 4, 5, 10}, extremes...) {
			for _, n := range extremes {
				for _, m := range extremes {
					i := api.Instr{Op: api.Op(op), Rd: n, Rs1: m, Rs2: n, Imm: m}
					p.Guess(uint32(n), i)
					p.Restore(api.Mark{History: n, Top: m}, uint32(m), i, true)
					p.Learn(api.Mark{History: m, Top: n}, uint32(m), i, true, uint32(n))
					i.Rd, i.Rs1 = n&1, m&1
					p.Restore(api.Mark{History: n & 7, Top: m & 1}, uint32(n), i, false)
					p.Learn(api.Mark{History: m & 7, Top: n & 1}, uint32(n), i, false, uint32(m))
					p.Guess(uint32(m), i)
				}
			}
		}
	}
}

// The same calls on two predictors of one configuration are answered alike, whatever a third one is told in between.
func TestPredictorsAreApart(t *testing.T) {
	for kind := range 4 {
		g := api.Guessing{Kind: kind, Bits: 4, History: 3, Targets: 2, Returns: 3}
		r := rand.New(rand.NewSource(17))
		p, _ := predict.New(g)
		q, _ := predict.New(g)
		other, _ := predict.New(g)
		for range 3000 {
			pc, taken := uint32(r.Intn(64))*4, r.Intn(2) == 0
			i := api.Instr{Op: api.Op(3 + r.Intn(4)), Rd: r.Intn(2), Rs1: r.Intn(2), Imm: 8 * (r.Intn(9) - 4)}
			a, m := p.Guess(pc, i)
			for range r.Intn(3) {
				_, k := other.Guess(r.Uint32(), i)
				other.Learn(k, pc, i, !taken, r.Uint32())
				other.Restore(api.Mark{Value: 5}, pc, i, taken)
			}
			b, n := q.Guess(pc, i)
			if a != b || m != n {
				t.Fatalf("P2: Guess(%d, %+v) = %d, %+v, and of another %d, %+v", pc, i, a, m, b, n)
			}
			p.Learn(m, pc, i, taken, a+8)
			q.Learn(m, pc, i, taken, a+8)
			if r.Intn(4) == 0 {
				p.Restore(m, pc, i, taken)
				q.Restore(m, pc, i, taken)
			}
		}
	}
}

func TestNamesOfAnyNumbers(t *testing.T) {
	for _, n := range extremes {
		x, err := rename.New(n)
		if x != nil && (n < 34 || n > 128) || (x == nil) != (plain.Told(err) == api.ErrConfig) {
			t.Errorf("P1, P3: New(%d) = %v, %v", n, x != nil, err)
		}
	}
	x, err := rename.New(40)
	if err != nil {
		t.Fatal(err)
	}
	for _, a := range extremes {
		x.Look(a)
		if fresh, old, err := x.Take(a); err != nil && (fresh != 0 || old != 0) {
			t.Errorf("P1: Take(%d) = %d, %d, %v", a, fresh, old, err)
		}
		for _, b := range extremes {
			for _, c := range extremes {
				if told := plain.Told(x.Undo(a, b, c)); told != api.OK && told != api.ErrRange && told != api.ErrOrder {
					t.Errorf("P3: Undo(%d, %d, %d): %v", a, b, c, told)
				}
			}
			if told := plain.Told(x.Release(b)); told != api.OK && told != api.ErrRange && told != api.ErrFree {
				t.Errorf("P3: Release(%d): %v", b, told)
			}
		}
	}
}

func TestTablesAreApart(t *testing.T) {
	a, _ := rename.New(36)
	b, _ := rename.New(36)
	for r := 1; r < 5; r++ {
		a.Take(r)
	}
	a.Release(3)
	if fresh, old, err := b.Take(3); fresh != 32 || old != 3 || err != nil || b.Free() != 3 || b.Look(1) != 1 {
		t.Errorf("P2: Take(3) = %d, %d, %v of another table, with %d free", fresh, old, err, b.Free())
	}
}
