package predict_test

import (
	"testing"

	"oocore/api"
	"oocore/predict"
)

// Which jumps are returns, which lay where they come back to, and which do neither.
func TestKindsOfJumps(t *testing.T) {
	for _, c := range []struct {
		what string
		i    api.Instr
		next uint32
		top  int
		word uint32
	}{
		{"jal", api.Instr{Op: api.Jal, Imm: -64}, 0x1c0, 1, 0x14},
		{"jal with Rd 5", api.Instr{Op: api.Jal, Rd: 5, Imm: 8}, 0x208, 1, 0x14},
		{"jal with Rd 1", api.Instr{Op: api.Jal, Rd: 1, Imm: 8}, 0x208, 2, 0x204},
		{"jal with Rs1 1", api.Instr{Op: api.Jal, Rs1: 1, Rs2: 1, Imm: 8}, 0x208, 1, 0x14},
		{"jalr with Rs1 1", api.Instr{Op: api.Jalr, Rs1: 1}, 0x14, 0, 0},
		{"jalr with Rs1 1 and Imm", api.Instr{Op: api.Jalr, Rs1: 1, Rs2: 9, Imm: -12}, 0x14, 0, 0},
		{"jalr with Rs1 1, Rd 1", api.Instr{Op: api.Jalr, Rs1: 1, Rd: 1}, 0x204, 2, 0x204},
		{"jalr with Rs1 1, Rd 2", api.Instr{Op: api.Jalr, Rs1: 1, Rd: 2}, 0x204, 1, 0x14},
		{"jalr with Rs1 5", api.Instr{Op: api.Jalr, Rs1: 5, Imm: 40}, 0x204, 1, 0x14},
		{"jalr with Rs1 0, Rs2 1", api.Instr{Op: api.Jalr, Rs2: 1}, 0x204, 1, 0x14},
		{"jalr with Rs1 5, Rd 1", api.Instr{Op: api.Jalr, Rs1: 5, Rd: 1}, 0x204, 2, 0x204},
		{"jalr with Rs1 33", api.Instr{Op: api.Jalr, Rs1: 33}, 0x204, 1, 0x14},
		{"jalr with Rs1 1, Rd 32", api.Instr{Op: api.Jalr, Rs1: 1, Rd: 32}, 0x204, 1, 0x14},
		{"jal with Rd 33", api.Instr{Op: api.Jal, Rd: 33, Imm: 8}, 0x208, 1, 0x14},
		{"beq with Rd 1", api.Instr{Op: api.Beq, Rd: 1, Imm: -8}, 0x204, 1, 0x14},
	} {
		p := made(t, api.Guessing{Kind: 0, Bits: 1, Targets: 2, Returns: 3})
		p.Guess(0x10, call(0))
		if m := guesses(t, "D2: "+c.what, p, 0x200, c.i, c.next); m != (api.Mark{Top: 1, Value: 0x14}) {
			t.Errorf("D2: %s: the mark is %+v", c.what, m)
		}
		stands(t, "D2: behind "+c.what, p, api.Mark{Top: c.top, Value: c.word})
	}
}

// Calls within calls come back, as many as there are places; the ring is gone round, and older ones are lost.
func TestCallsWithinCalls(t *testing.T) {
	for returns := 1; returns <= 16; returns++ {
		for deep := range 2*returns + 3 {
			p := made(t, api.Guessing{Kind: 0, Bits: 1, Returns: returns})
			for k := range deep {
				guesses(t, "D2: a call", p, uint32(k)*256, call(256), uint32(k)*256+256)
			}
			for k := range min(deep, returns) {
				guesses(t, "D2: a return", p, 0x8000, back(), uint32(deep-1-k)*256+4)
			}
			if deep >= returns {
				guesses(t, "D2: a return, round the ring", p, 0x8000, back(), uint32(deep-1)*256+4)
			}
		}
	}
}

func TestTopGoesRound(t *testing.T) {
	for _, returns := range []int{1, 2, 16} {
		p := made(t, api.Guessing{Kind: 0, Bits: 1, Returns: returns})
		for k := range 40 {
			stands(t, "D2: returns alone", p, api.Mark{Top: (40*returns - k) % returns})
			p.Guess(0, back())
		}
		p = made(t, api.Guessing{Kind: 0, Bits: 1, Returns: returns})
		for k := range 40 {
			want := api.Mark{Top: k % returns, Value: uint32(k) * 8}
			if k > 0 {
				want.Value -= 4
			}
			stands(t, "D2: calls alone", p, want)
			p.Guess(uint32(k)*8, far(1))
		}
	}
}

// Places for targets stand at pc / 4 modulo 2^Targets, each of one pc.
func TestTargets(t *testing.T) {
	for _, bits := range []int{0, 1, 3, 8} {
		p := made(t, api.Guessing{Kind: 0, Bits: 1, Targets: bits, Returns: 1})
		size := uint32(1) << bits
		for n := range size {
			p.Learn(api.Mark{}, n*4, far(0), true, n*12+0x1000)
		}
		for n := range size {
			guesses(t, "D4: a place", p, n*4, far(0), n*12+0x1000)
			guesses(t, "D2: another pc's place", p, (n+size)*4, far(0), (n+size)*4+4)
			guesses(t, "D2: another pc's place, at an odd pc", p, n*4+1, far(0), n*4+5)
		}
		p.Learn(api.Mark{}, size*8, far(7), false, 0x24)
		guesses(t, "D4: the place is now of this pc", p, size*8, far(0), 0x24)
		guesses(t, "D4: and not of that", p, 0, far(0), 4)
		if bits > 0 {
			guesses(t, "D4: another place is as it was", p, 4, far(0), 0x100c)
		}
		p.Learn(api.Mark{}, size*8, far(0), true, 0)
		guesses(t, "D4: another target", p, size*8, far(0), 0)
	}
}

// A place that was learnt at 0 is no empty one, nor the other way round.
func TestTargetOfTheFirstPlace(t *testing.T) {
	p := made(t, api.Guessing{Kind: 0, Bits: 1, Targets: 0, Returns: 1})
	guesses(t, "D1: an empty place", p, 0, far(0), 4)
	p.Learn(api.Mark{}, 0, far(0), true, 0)
	guesses(t, "D4: a place of 0, that says 0", p, 0, far(0), 0)
}

// What has no place for targets lays nothing in one, and does not count.
func TestWhatLearnsNoTarget(t *testing.T) {
	p := made(t, api.Guessing{Kind: 2, Bits: 1, Targets: 0, Returns: 2})
	for _, i := range []api.Instr{back(), {Op: api.Jalr, Rs1: 1, Imm: 16}, call(64), {Op: api.Jal}, branch(8), {Op: api.Add}, {}, {Op: api.Mret}} {
		p.Learn(api.Mark{}, 64, i, false, 0x500)
		guesses(t, "D4: no place for targets", p, 64, far(0), 68)
	}
	for _, i := range []api.Instr{back(), far(0), far(1), call(64), {Op: api.Add}, {Op: 99}} {
		p.Learn(api.Mark{}, 4, i, true, 0x500)
		guesses(t, "D4: no counter", p, 4, branch(16), 8)
	}
	stands(t, "D4: Learn changes no history and no stack", p, api.Mark{})
}

// Kinds of predictors differ in branches alone.
func TestJumpsOfAllKinds(t *testing.T) {
	for kind := range 4 {
		p := made(t, api.Guessing{Kind: kind, Bits: 2, History: 1, Targets: 1, Returns: 2})
		jumpsOfAKind(t, p)
	}
}

func jumpsOfAKind(t *testing.T, p *predict.Predictor) {
	t.Helper()
	guesses(t, "D2: jal", p, 8, api.Instr{Op: api.Jal, Imm: 40}, 48)
	guesses(t, "D2: a call", p, 48, far(1), 52)
	guesses(t, "D2: a return", p, 100, back(), 52)
	p.Learn(api.Mark{History: 1}, 48, far(1), true, 4)
	guesses(t, "D2: a jalr", p, 48, far(1), 4)
	stands(t, "D2: calls", p, api.Mark{Top: 1, Value: 52})
}
