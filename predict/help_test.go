package predict_test

import (
	"testing"

	"oocore/api"
	"oocore/predict"
)

var branches = []api.Op{api.Beq, api.Bne, api.Blt, api.Bge, api.Bltu, api.Bgeu}

func branch(imm int) api.Instr { return api.Instr{Op: api.Bne, Rs1: 5, Rs2: 6, Imm: imm} }

func call(imm int) api.Instr { return api.Instr{Op: api.Jal, Rd: 1, Imm: imm} }

func back() api.Instr { return api.Instr{Op: api.Jalr, Rs1: 1} }

func far(rd int) api.Instr { return api.Instr{Op: api.Jalr, Rd: rd, Rs1: 5} }

func made(t *testing.T, g api.Guessing) *predict.Predictor {
	t.Helper()
	p, err := predict.New(g)
	if err != nil || p == nil {
		t.Fatalf("D1: New(%+v) = %v, %v", g, p, err)
	}
	return p
}

func guesses(t *testing.T, what string, p *predict.Predictor, pc uint32, i api.Instr, want uint32) api.Mark {
	t.Helper()
	next, m := p.Guess(pc, i)
	if next != want {
		t.Errorf("%s: Guess(%#x, %+v) tells %#x, want %#x", what, pc, i, next, want)
	}
	return m
}

// stateOf is the mark of an instruction that changes nothing.
func stateOf(p *predict.Predictor) api.Mark {
	_, m := p.Guess(0, api.Instr{Op: api.Add})
	return m
}

func stands(t *testing.T, what string, p *predict.Predictor, want api.Mark) {
	t.Helper()
	if m := stateOf(p); m != want {
		t.Errorf("%s: the state is %+v, want %+v", what, m, want)
	}
}
