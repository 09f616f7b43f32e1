package asm

import (
	"math"

	"oocore/api"
	"oocore/isa"
)

// statement is what a line comes to: its words; if it is one instruction whose target is a label, that instruction and the label.
type statement struct {
	words []uint32
	instr api.Instr
	label string
}

// short makes a statement of a short instruction's operands.
type short func(parts []string) statement

const returnAddress = 1

// Bounds of addi's number, and the bits that it leaves to lui's.
const (
	lowest, highest = -2048, 2047
	lowBits         = 12
	highMask        = 1<<20 - 1
)

func (v vocabulary) shortForms() map[string]short {
	return map[string]short{
		"nop": func(parts []string) statement {
			return single(v.fill(api.Instr{Op: api.Addi}, parts))
		},
		"ret": func(parts []string) statement {
			return single(v.fill(api.Instr{Op: api.Jalr, Rs1: returnAddress}, parts))
		},
		"j": func(parts []string) statement {
			return single(v.fill(api.Instr{Op: api.Jal}, parts, slotTarget))
		},
		"call": func(parts []string) statement {
			return single(v.fill(api.Instr{Op: api.Jal, Rd: returnAddress}, parts, slotTarget))
		},
		"mv": func(parts []string) statement {
			return single(v.fill(api.Instr{Op: api.Addi}, parts, slotRd, slotRs1))
		},
		"not": func(parts []string) statement {
			return single(v.fill(api.Instr{Op: api.Xori, Imm: -1}, parts, slotRd, slotRs1))
		},
		"neg": func(parts []string) statement {
			return single(v.fill(api.Instr{Op: api.Sub}, parts, slotRd, slotRs2))
		},
		"beqz": func(parts []string) statement {
			return single(v.fill(api.Instr{Op: api.Beq}, parts, slotRs1, slotTarget))
		},
		"bnez": func(parts []string) statement {
			return single(v.fill(api.Instr{Op: api.Bne}, parts, slotRs1, slotTarget))
		},
		".word": func(parts []string) statement {
			i, _ := v.fill(api.Instr{}, parts, slotImm)
			return statement{words: []uint32{toWord(i.Imm)}}
		},
		"li": func(parts []string) statement {
			i, _ := v.fill(api.Instr{}, parts, slotRd, slotImm)
			return statement{words: load(i.Rd, int(int32(toWord(i.Imm))))}
		},
	}
}

func single(i api.Instr, label string) statement {
	return statement{words: encode(i), instr: i, label: label}
}

// encode needs to look at numbers only: what was read has registers that fit.
func encode(instrs ...api.Instr) []uint32 {
	var words []uint32
	for _, i := range instrs {
		w, ok := isa.Encode(i)
		if !ok {
			panic(api.ErrRange)
		}
		words = append(words, w)
	}
	return words
}

func toWord(n int) uint32 {
	if n < math.MinInt32 || n > math.MaxUint32 {
		panic(api.ErrRange)
	}
	return uint32(n)
}

func load(rd, n int) []uint32 {
	if lowest <= n && n <= highest {
		return encode(api.Instr{Op: api.Addi, Rd: rd, Imm: n})
	}
	// Rounded to the nearest, so that what is left is one of addi's numbers.
	high := (n - lowest) >> lowBits
	return encode(
		api.Instr{Op: api.Lui, Rd: rd, Imm: high & highMask},
		api.Instr{Op: api.Addi, Rd: rd, Rs1: rd, Imm: n - high<<lowBits},
	)
}
