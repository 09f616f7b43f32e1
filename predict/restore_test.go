package predict_test

import (
	"math"
	"testing"

	"oocore/api"
	"oocore/predict"
)

func TestRestoreOfBranches(t *testing.T) {
	for kind := range 4 {
		for _, c := range []struct {
			bits, history int
			taken         bool
			want          int
		}{{3, 5, true, 3}, {3, 5, false, 2}, {3, 0, true, 1}, {0, 0, true, 0}, {1, 1, true, 1}, {1, 1, false, 0}, {10, 1023, true, 1023}, {10, 1023, false, 1022}} {
			p := made(t, api.Guessing{Kind: kind, Bits: 10, History: c.bits, Returns: 2})
			p.Guess(0, call(8))
			p.Guess(8, branch(-8))
			p.Restore(api.Mark{History: c.history, Top: 0, Value: 0x77}, 8, branch(-8), c.taken)
			stands(t, "D3: a branch", p, api.Mark{History: c.want, Value: 0x77})
			p.Guess(8, far(1))
			p.Guess(8, far(1))
			stands(t, "D3: and goes on", p, api.Mark{History: c.want, Top: 0, Value: 12})
		}
	}
}

// The top and its word are the mark's; the other places of the stack are as they were.
func TestRestoreOfTheStack(t *testing.T) {
	p := made(t, api.Guessing{Kind: 0, Bits: 1, Returns: 4})
	for k := range uint32(4) {
		p.Guess(k*16, call(16))
	}
	stands(t, "D2: four calls", p, api.Mark{Top: 0, Value: 52})
	p.Restore(api.Mark{Top: 2, Value: 0x999}, 0, api.Instr{Op: api.Add}, true)
	for _, m := range []api.Mark{{Top: 2, Value: 0x999}, {Top: 1, Value: 4}, {Top: 0, Value: 52}, {Top: 3, Value: 36}} {
		stands(t, "D3: the stack", p, m)
		p.Guess(0, back())
	}
}

func TestRestoreOfJumps(t *testing.T) {
	for _, c := range []struct {
		what string
		i    api.Instr
		want api.Mark
	}{
		{"a call", call(64), api.Mark{History: 1, Top: 0, Value: 0x84}},
		{"a jalr that is a call", far(1), api.Mark{History: 1, Top: 0, Value: 0x84}},
		{"a return", back(), api.Mark{History: 1, Top: 1, Value: 0x14}},
		{"another jalr", far(0), api.Mark{History: 1, Top: 2, Value: 0x55}},
		{"another jal", api.Instr{Op: api.Jal, Rd: 2, Imm: 8}, api.Mark{History: 1, Top: 2, Value: 0x55}},
		{"what is no instruction", api.Instr{}, api.Mark{History: 1, Top: 2, Value: 0x55}},
		{"a number that is no operation", api.Instr{Op: -5, Rd: 1, Rs1: 1}, api.Mark{History: 1, Top: 2, Value: 0x55}},
	} {
		for _, taken := range []bool{false, true} {
			p := made(t, api.Guessing{Kind: 1, Bits: 2, History: 2, Returns: 3})
			p.Guess(0x10, call(0))
			p.Guess(0x20, branch(-8))
			p.Restore(api.Mark{History: 1, Top: 2, Value: 0x55}, 0x80, c.i, taken)
			stands(t, "D3: "+c.what, p, c.want)
		}
	}
}

// The mark of a guess brings back what was ahead of it.
func TestRestoreUndoesAGuess(t *testing.T) {
	for _, i := range []api.Instr{call(8), back(), far(1), far(0), branch(-8), branch(8), {Op: api.Sw}} {
		p := made(t, api.Guessing{Kind: 1, Bits: 4, History: 3, Targets: 1, Returns: 3})
		for k := range uint32(5) {
			p.Guess(k*32, call(32))
			p.Guess(k*32, branch(-4))
		}
		ahead := stateOf(p)
		_, m := p.Guess(0x400, i)
		if m != ahead {
			t.Errorf("D2: the mark of %+v is %+v, want %+v", i, m, ahead)
		}
		p.Restore(m, 0, api.Instr{}, false)
		stands(t, "D3: back again", p, ahead)
		guesses(t, "D3: the stack is back again", p, 0, back(), 4*32+4)
		guesses(t, "D3: the stack is back again", p, 0, back(), 3*32+4)
	}
}

// Restore changes no counter and no place for targets.
func TestRestoreDoesNotLearn(t *testing.T) {
	p := made(t, api.Guessing{Kind: 2, Bits: 1, Targets: 0, Returns: 1})
	for range 3 {
		p.Restore(api.Mark{}, 8, branch(64), true)
		p.Restore(api.Mark{}, 8, far(0), true)
	}
	guesses(t, "D3", p, 8, branch(64), 12)
	guesses(t, "D3", p, 8, far(0), 12)
	p.Learn(api.Mark{}, 8, branch(64), true, 72)
	p.Restore(api.Mark{}, 8, branch(64), false)
	guesses(t, "D3", p, 8, branch(64), 72)
}

func strangers(g api.Guessing) []api.Mark {
	histories := []int{-1, 1 << g.History, 1<<g.History + 1, math.MinInt, math.MaxInt, 1 << 32}
	tops := []int{-1, g.Returns, g.Returns + 1, math.MinInt, math.MaxInt, 1 << 32}
	var out []api.Mark
	for k := range histories {
		out = append(out, api.Mark{History: histories[k], Value: 8}, api.Mark{Top: tops[k], Value: 8}, api.Mark{History: 1<<g.History - 1, Top: tops[k]}, api.Mark{History: histories[k], Top: g.Returns - 1}, api.Mark{History: histories[k], Top: tops[k]})
	}
	return out
}

// Marks that can be none of the predictor's, with all that could be restored or learnt: all is as it was.
func TestStrangeMarks(t *testing.T) {
	for kind := range 4 {
		for _, g := range []api.Guessing{{Kind: kind, Bits: 1, Returns: 1}, {Kind: kind, Bits: 3, History: 2, Targets: 1, Returns: 3}, {Kind: kind, Bits: 10, History: 10, Targets: 8, Returns: 16}} {
			for _, m := range strangers(g) {
				p, q := made(t, g), made(t, g)
				for _, x := range []*predict.Predictor{p, q} {
					x.Guess(64, call(16))
					x.Guess(80, branch(-4))
				}
				for range 3 {
					for _, i := range []api.Instr{branch(16), far(0), far(1), call(8), back(), {}} {
						p.Restore(m, 80, i, true)
						p.Learn(m, 80, i, true, 0x300)
						p.Learn(m, 84, i, false, 0x300)
					}
				}
				same(t, p, q, m)
			}
		}
	}
}

func same(t *testing.T, p, q *predict.Predictor, m api.Mark) {
	t.Helper()
	for k, i := range []api.Instr{{}, branch(16), far(0), branch(16), back(), back()} {
		for pc := range uint32(32) {
			a, x := p.Guess(pc*4, i)
			b, y := q.Guess(pc*4, i)
			if a != b || x != y {
				t.Fatalf("D5: behind the mark %+v, guess %d at %d: %d, %+v, want %d, %+v", m, k, pc*4, a, x, b, y)
			}
		}
	}
}

// Marks at the ends of what the predictor's can be.
func TestMarksAtTheEnds(t *testing.T) {
	for _, g := range []api.Guessing{{Kind: 3, Bits: 1, Returns: 1}, {Kind: 3, Bits: 10, History: 10, Targets: 8, Returns: 16}} {
		p := made(t, g)
		for _, m := range []api.Mark{{}, {History: 1<<g.History - 1, Top: g.Returns - 1, Value: math.MaxUint32}} {
			p.Restore(m, 0, api.Instr{}, false)
			stands(t, "D5: a mark that is the predictor's", p, m)
			p.Learn(m, 0, far(0), true, 40+uint32(m.Top))
			guesses(t, "D5: learnt", p, 0, far(0), 40+uint32(m.Top))
		}
	}
}
