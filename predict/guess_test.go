package predict_test

import (
	"testing"

	"oocore/api"
)

func TestExamples(t *testing.T) {
	p := made(t, api.Guessing{Kind: 2, Bits: 2, Targets: 1, Returns: 2})
	m := guesses(t, "D2", p, 16, branch(-8), 20)
	p.Learn(m, 16, branch(-8), true, 8)
	guesses(t, "D4", p, 16, branch(-8), 8)
	guesses(t, "D2", p, 32, call(100), 132)
	guesses(t, "D2", p, 140, back(), 36)
	m = guesses(t, "D2", p, 20, far(0), 24)
	p.Learn(m, 20, far(0), true, 400)
	guesses(t, "D4", p, 20, far(0), 400)
	guesses(t, "D2", p, 28, far(0), 32)
}

func TestKindsByImm(t *testing.T) {
	for _, op := range branches {
		for _, imm := range []int{-4096, -2, -1, 0, 2, 4, 4094, 1 << 31, 1<<32 - 8} {
			i := api.Instr{Op: op, Rs1: 3, Rs2: 4, Imm: imm}
			for kind := range 4 {
				want, history := uint32(0x104), 0
				if kind == 1 && imm < 0 {
					want, history = 0x100+uint32(imm), 1
				}
				p := made(t, api.Guessing{Kind: kind, Bits: 4, History: 2, Targets: 2, Returns: 2})
				guesses(t, "D2", p, 0x100, i, want)
				stands(t, "D2: behind a branch", p, api.Mark{History: history})
			}
		}
	}
}

// What the counters come to has no part in the guesses of kinds 0 and 1.
func TestKindsThatDoNotCount(t *testing.T) {
	for kind := range 2 {
		p := made(t, api.Guessing{Kind: kind, Bits: 1, Returns: 1})
		for range 4 {
			p.Learn(api.Mark{}, 8, branch(16), true, 24)
			guesses(t, "D2: taken each time", p, 8, branch(16), 12)
		}
		for range 8 {
			p.Learn(api.Mark{}, 8, branch(-8), false, 12)
		}
		guesses(t, "D2: never taken", p, 8, branch(-8), 12-12*uint32(kind))
	}
}

func TestOtherOperationsGoOnByFour(t *testing.T) {
	p := made(t, api.Guessing{Kind: 1, Bits: 2, History: 2, Targets: 1, Returns: 3})
	p.Guess(40, call(8))
	p.Guess(48, branch(-8))
	m := stateOf(p)
	for op := api.Op(-2); op < 72; op++ {
		if op >= api.Jal && op <= api.Bgeu {
			continue
		}
		i := api.Instr{Op: op, Rd: 1, Rs1: 1, Imm: -64}
		guesses(t, "D2", p, 200, i, 204)
		p.Guess(200, api.Instr{Op: op, Rs1: 1})
		p.Learn(m, 200, i, true, 500)
		stands(t, "D2: an instruction that is no branch or jump", p, m)
	}
	guesses(t, "D4: none of them has a place", p, 200, far(0), 204)
}

// Counters stand at pc / 4 modulo 2^Bits: others of the table are as they were.
func TestCountersByPlace(t *testing.T) {
	for _, bits := range []int{1, 2, 5, 10} {
		p := made(t, api.Guessing{Kind: 2, Bits: bits, History: bits, Returns: 1})
		size := uint32(1) << bits
		at := size*4*7 + 4*(size-1)
		p.Learn(stateOf(p), at, branch(32), true, at+32)
		for n := range 3 * size {
			want := n*4 + 4
			if n%size == size-1 {
				want = n*4 + 32
			}
			guesses(t, "D2: a counter by place", p, n*4, branch(32), want)
		}
		guesses(t, "D2: pc / 4, at an odd place", p, 4*size-1, branch(32), 4*size+31)
		guesses(t, "D2: the last place", p, 0xfffffffc, branch(32), 28)
	}
}

// A counter goes from 0 to 3, and no further: what it is guessed to be, behind each time that it was taken (+) or not (-).
func TestCounters(t *testing.T) {
	const was, guessed = "++++-----++-+", "tttttnnnnntnt"
	for _, kind := range []int{2, 3} {
		p := made(t, api.Guessing{Kind: kind, Bits: 1, Returns: 1})
		for k := range len(was) {
			p.Learn(api.Mark{}, 4, branch(64), was[k] == '+', 0)
			want := uint32(8)
			if guessed[k] == 't' {
				want = 68
			}
			guesses(t, "D4: behind "+was[:k+1], p, 4, branch(64), want)
			guesses(t, "D4: another counter", p, 8, branch(64), 12)
		}
	}
}

// With kind 3 the counter is that at pc / 4 XOR the history, cut to the table.
func TestCountersByHistory(t *testing.T) {
	for _, c := range []struct{ bits, history int }{{1, 0}, {1, 1}, {3, 0}, {3, 2}, {3, 3}, {10, 10}} {
		g := api.Guessing{Kind: 3, Bits: c.bits, History: c.history, Returns: 1}
		for old := range min(1<<c.history, 8) {
			p := made(t, g)
			p.Learn(api.Mark{History: old}, 0x1028, branch(32), true, 0x1048)
			for now := range min(1<<c.history, 8) {
				for n := range uint32(16) {
					p.Restore(api.Mark{History: now}, 0, api.Instr{}, false)
					want := n*4 + 4
					if (int(n)^now)%(1<<c.bits) == (0x40a^old)%(1<<c.bits) {
						want = n*4 + 32
					}
					guesses(t, "D2, D4: kind 3", p, n*4, branch(32), want)
				}
			}
		}
	}
}

func TestHistory(t *testing.T) {
	for _, c := range []struct {
		bits int
		want []int
	}{{0, []int{0, 0, 0, 0, 0, 0}}, {1, []int{1, 0, 1, 1, 0, 0}}, {2, []int{1, 2, 1, 3, 2, 0}}, {3, []int{1, 2, 5, 3, 6, 4}}, {10, []int{1, 2, 5, 11, 22, 44}}} {
		p := made(t, api.Guessing{Kind: 1, Bits: 10, History: c.bits, Returns: 2})
		for k, imm := range []int{-8, 8, -8, -8, 8, 8} {
			p.Guess(400, branch(imm))
			stands(t, "D2: a history", p, api.Mark{History: c.want[k]})
			p.Guess(400, call(4))
			p.Guess(400, far(0))
			p.Guess(400, api.Instr{Op: api.Jalr, Rs1: 1})
		}
	}
}

func TestLongHistory(t *testing.T) {
	for bits := range 11 {
		p := made(t, api.Guessing{Kind: 1, Bits: 10, History: bits, Returns: 1})
		for range 12 {
			p.Guess(400, branch(-8))
		}
		stands(t, "D2: a history of ones", p, api.Mark{History: 1<<bits - 1})
		for range 12 {
			p.Guess(400, branch(8))
		}
		stands(t, "D2: a history of zeros", p, api.Mark{})
	}
}

func TestSumsAreWords(t *testing.T) {
	p := made(t, api.Guessing{Kind: 1, Bits: 1, Targets: 0, Returns: 1})
	guesses(t, "D5", p, 4, branch(-8), 0xfffffffc)
	guesses(t, "D5", p, 0xfffffffc, branch(8), 0)
	guesses(t, "D5", p, 0xfffffffc, api.Instr{Op: api.Jal, Imm: 12}, 8)
	guesses(t, "D5", p, 0xfffffffe, api.Instr{Op: api.Lw}, 2)
	guesses(t, "D5", p, 0xfffffffc, far(0), 0)
	guesses(t, "D5", p, 16, api.Instr{Op: api.Jal, Imm: 1<<32 + 8}, 24)
	guesses(t, "D5", p, 16, api.Instr{Op: api.Jal, Imm: -1 << 33}, 16)
	guesses(t, "D5", p, 0xfffffffe, call(4), 2)
	guesses(t, "D5: pc plus 4 is laid", p, 16, back(), 2)
}
