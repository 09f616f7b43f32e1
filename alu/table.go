package alu

import "oocore/api"

// pick takes an operation's function out of a table by the operation's number; nil: it has none there.
func pick[F any](table []F, op api.Op) (f F) {
	if 0 <= op && int(op) < len(table) {
		f = table[op]
	}
	return f
}

func computing(op api.Op) func(a, b uint32) uint32 {
	table := [...]func(a, b uint32) uint32{
		api.Lui:    upper,
		api.Auipc:  addUpper,
		api.Addi:   add,
		api.Slti:   setLess,
		api.Sltiu:  setBelow,
		api.Xori:   xor,
		api.Ori:    or,
		api.Andi:   and,
		api.Slli:   left,
		api.Srli:   right,
		api.Srai:   rightSigned,
		api.Add:    add,
		api.Sub:    sub,
		api.Sll:    left,
		api.Slt:    setLess,
		api.Sltu:   setBelow,
		api.Xor:    xor,
		api.Srl:    right,
		api.Sra:    rightSigned,
		api.Or:     or,
		api.And:    and,
		api.Mul:    mul,
		api.Mulh:   mulHigh,
		api.Mulhsu: mulHighMixed,
		api.Mulhu:  mulHighUnsigned,
		api.Div:    div,
		api.Divu:   divUnsigned,
		api.Rem:    rem,
		api.Remu:   remUnsigned,
	}
	return pick(table[:], op)
}

func asking(op api.Op) func(a, b uint32) bool {
	table := [...]func(a, b uint32) bool{
		api.Beq:  same,
		api.Bne:  func(a, b uint32) bool { return !same(a, b) },
		api.Blt:  less,
		api.Bge:  func(a, b uint32) bool { return !less(a, b) },
		api.Bltu: below,
		api.Bgeu: func(a, b uint32) bool { return !below(a, b) },
	}
	return pick(table[:], op)
}

func widening(op api.Op) func(raw uint32) uint32 {
	table := [...]func(raw uint32) uint32{
		api.Lb:  func(raw uint32) uint32 { return uint32(int8(raw)) },
		api.Lh:  func(raw uint32) uint32 { return uint32(int16(raw)) },
		api.Lw:  func(raw uint32) uint32 { return raw },
		api.Lbu: func(raw uint32) uint32 { return uint32(uint8(raw)) },
		api.Lhu: func(raw uint32) uint32 { return uint32(uint16(raw)) },
	}
	return pick(table[:], op)
}

func swapping(op api.Op) func(old, b uint32) uint32 {
	table := [...]func(old, b uint32) uint32{
		api.ScW:     second,
		api.AmoSwap: second,
		api.AmoAdd:  add,
		api.AmoXor:  xor,
		api.AmoAnd:  and,
		api.AmoOr:   or,
		api.AmoMin:  lesser,
		api.AmoMax:  greater,
		api.AmoMinu: func(old, b uint32) uint32 { return min(old, b) },
		api.AmoMaxu: func(old, b uint32) uint32 { return max(old, b) },
	}
	return pick(table[:], op)
}
