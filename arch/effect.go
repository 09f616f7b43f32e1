package arch

import (
	"oocore/alu"
	"oocore/api"
	"oocore/isa"
)

// wordSize is how far the next instruction is, and what places of instructions are multiples of.
const wordSize = 4

// first is Rs1's value; of those control operations that have no register there, Rs1 itself.
func (h *Hart) first(i api.Instr) uint32 {
	if reads, _ := isa.Reads(i.Op); !reads {
		return uint32(i.Rs1)
	}
	return h.register[i.Rs1]
}

// operands of what is computed: the place and Imm, where the operation does not read registers instead.
func (h *Hart) operands(i api.Instr) (a, b uint32) {
	a, b = h.place, uint32(i.Imm)
	one, two := isa.Reads(i.Op)
	if one {
		a = h.register[i.Rs1]
	}
	if two {
		b = h.register[i.Rs2]
	}
	return a, b
}

// result is what Rd becomes, if the instruction writes it and does not trap.
func (h *Hart) result(i api.Instr, loaded uint32, held bool) uint32 {
	switch isa.ClassOf(i.Op) {
	case api.Alu, api.Muldiv:
		a, b := h.operands(i)
		return alu.Exec(i.Op, a, b)
	case api.Jump:
		return h.place + wordSize
	case api.Load:
		return alu.Widen(i.Op, loaded)
	case api.Atomic:
		if i.Op == api.ScW {
			return missed(held)
		}
		return loaded
	}
	old, _ := h.Csr(i.Imm)
	return old
}

// missed is what a conditional store tells.
func missed(held bool) uint32 {
	if held {
		return 0
	}
	return 1
}

// target is where a branch or a jump goes; false: the instruction goes nowhere else than to the next word.
func (h *Hart) target(i api.Instr) (uint32, bool) {
	switch {
	case i.Op == api.Jalr:
		return (h.register[i.Rs1] + uint32(i.Imm)) &^ 1, true
	case i.Op == api.Jal, alu.Taken(i.Op, h.register[i.Rs1], h.register[i.Rs2]):
		return h.place + uint32(i.Imm), true
	}
	return 0, false
}

func (h *Hart) next(i api.Instr) uint32 {
	if i.Op == api.Mret {
		return h.mepc
	}
	if to, goes := h.target(i); goes {
		return to
	}
	return h.place + wordSize
}

// control does to the control registers what the instruction does.
func (h *Hart) control(i api.Instr) {
	switch {
	case i.Op == api.Mret:
		h.leave()
	case writesControl(i):
		h.set(i.Op, i.Imm, h.first(i))
	}
}

// address of a Load, Store or Atomic; Imm of the last says how it is ordered, and not where it goes.
func (h *Hart) address(i api.Instr) uint32 {
	if isa.ClassOf(i.Op) == api.Atomic {
		return h.register[i.Rs1]
	}
	return h.register[i.Rs1] + uint32(i.Imm)
}

func cut(value uint32, size int) uint32 {
	if size == wordSize {
		return value
	}
	return value & (1<<(8*size) - 1)
}
