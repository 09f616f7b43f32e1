// Package isa: instructions and their words: see doc/01-isa.md.
package isa

import "oocore/api"

// Decode reads a word; false: it is none of an instruction.
func Decode(word uint32) (api.Instr, bool) {
	for op := api.Lui; op <= api.Csrrci; op++ {
		if s := shapeOf(op); s.matches(word) {
			i := s.read(word)
			i.Op = op
			return i, true
		}
	}
	return api.Instr{}, false
}

// Encode writes an instruction; false: it is none.
func Encode(i api.Instr) (uint32, bool) {
	s := shapeOf(i.Op)
	if s.format == noFormat || !s.fits(i) {
		return 0, false
	}
	return s.bits() | s.write(i), true
}

// ClassOf tells an operation's class.
func ClassOf(op api.Op) api.Class {
	s := shapeOf(op)
	switch {
	case op == api.Jalr:
		return api.Jump
	case s.format == formatR && s.g == productGroup:
		return api.Muldiv
	}
	return s.class()
}

// Reads tells whether an operation reads its first, its second register.
func Reads(op api.Op) (bool, bool) {
	s := shapeOf(op)
	return s.readsFirst(), s.readsSecond()
}

// Writes tells whether an operation writes a register.
func Writes(op api.Op) bool { return shapeOf(op).writes() }
