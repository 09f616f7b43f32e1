package isa

import "oocore/api"

// format tells which bits of a word are what.
type format int

const (
	noFormat format = iota // of numbers that are no operation
	formatU
	formatJ
	formatI
	formatL
	formatB
	formatS
	formatH
	formatR
	formatA
	formatK
	formatF
	formatN
	formatC
	formatD
)

// Where a word's fields begin.
const (
	rdAt  = 7
	fAt   = 12
	rs1At = 15
	rs2At = 20
)

const (
	registerBits = 5
	lastRegister = 1<<registerBits - 1
)

// layout of a format: the bits that are the same in all words of one operation, where g begins, which registers are named, the numbers that Imm may be, and the class of most of its operations.
type layout struct {
	fixed        uint32
	gAt          uint8
	rd, rs1, rs2 bool
	low, high    int
	even         bool
	class        api.Class
}

var layouts = [...]layout{
	noFormat: {class: api.System},
	formatU:  {fixed: 0x0000007f, rd: true, high: 0xfffff, class: api.Alu},
	formatJ:  {fixed: 0x0000007f, rd: true, low: -1 << 20, high: 1<<20 - 2, even: true, class: api.Jump},
	formatI:  {fixed: 0x0000707f, rd: true, rs1: true, low: -2048, high: 2047, class: api.Alu},
	formatL:  {fixed: 0x0000707f, rd: true, rs1: true, low: -2048, high: 2047, class: api.Load},
	formatB:  {fixed: 0x0000707f, rs1: true, rs2: true, low: -4096, high: 4094, even: true, class: api.Branch},
	formatS:  {fixed: 0x0000707f, rs1: true, rs2: true, low: -2048, high: 2047, class: api.Store},
	formatH:  {fixed: 0xfe00707f, gAt: 25, rd: true, rs1: true, high: 31, class: api.Alu},
	formatR:  {fixed: 0xfe00707f, gAt: 25, rd: true, rs1: true, rs2: true, class: api.Alu},
	formatA:  {fixed: 0xf800707f, gAt: 27, rd: true, rs1: true, rs2: true, high: 3, class: api.Atomic},
	formatK:  {fixed: 0xf9f0707f, gAt: 27, rd: true, rs1: true, high: 3, class: api.Atomic},
	formatF:  {fixed: 0xf00fffff, high: 255, class: api.System},
	formatN:  {fixed: 0xffffffff, gAt: 20, class: api.System},
	formatC:  {fixed: 0x0000707f, rd: true, rs1: true, high: 4095, class: api.System},
	formatD:  {fixed: 0x0000707f, rd: true, rs1: true, high: 4095, class: api.System},
}

// piece is a run of Imm's bits: where it begins in the word, where in Imm, how long it is.
type piece struct {
	word, imm, length uint8
}

func (p piece) mask() uint32 { return 1<<p.length - 1 }

// pieces serve both ways, so that reading and writing cannot part; those that a format does not need have the length 0.
func (f format) pieces() [4]piece {
	switch f {
	case formatU:
		return [4]piece{{12, 0, 20}}
	case formatJ:
		return [4]piece{{31, 20, 1}, {21, 1, 10}, {20, 11, 1}, {12, 12, 8}}
	case formatI, formatL, formatC, formatD:
		return [4]piece{{20, 0, 12}}
	case formatB:
		return [4]piece{{31, 12, 1}, {25, 5, 6}, {8, 1, 4}, {7, 11, 1}}
	case formatS:
		return [4]piece{{25, 5, 7}, {7, 0, 5}}
	case formatH:
		return [4]piece{{20, 0, 5}}
	case formatA, formatK:
		return [4]piece{{25, 0, 2}}
	case formatF:
		return [4]piece{{20, 0, 8}}
	}
	return [4]piece{}
}

func (f format) fixed() uint32 { return layouts[f].fixed }

func (f format) gPlace() uint8 { return layouts[f].gAt }

func (f format) class() api.Class { return layouts[f].class }

// readsFirst is false of format D, whose Rs1 is a number and no register.
func (f format) readsFirst() bool { return layouts[f].rs1 && f != formatD }

func (f format) readsSecond() bool { return layouts[f].rs2 }

func (f format) writes() bool { return layouts[f].rd }

// read takes out of a word what the format names.
func (f format) read(word uint32) api.Instr {
	l := layouts[f]
	return api.Instr{
		Rd:  register(l.rd, word>>rdAt),
		Rs1: register(l.rs1, word>>rs1At),
		Rs2: register(l.rs2, word>>rs2At),
		Imm: f.number(word),
	}
}

func register(named bool, bits uint32) int {
	if !named {
		return 0
	}
	return int(bits & lastRegister)
}

func (f format) number(word uint32) int {
	bits := uint32(0)
	for _, p := range f.pieces() {
		bits |= (word >> p.word & p.mask()) << p.imm
	}
	n := int(bits)
	// Only a signed number can come out above the highest one: it is then below 0.
	if l := layouts[f]; n > l.high {
		n += 2 * l.low
	}
	return n
}

// fits tells whether the format has a place for all that an instruction says.
func (f format) fits(i api.Instr) bool {
	l := layouts[f]
	return registerFits(l.rd, i.Rd) && registerFits(l.rs1, i.Rs1) && registerFits(l.rs2, i.Rs2) &&
		l.low <= i.Imm && i.Imm <= l.high && !(l.even && i.Imm%2 != 0)
}

func registerFits(named bool, r int) bool {
	return r == 0 || named && 0 < r && r <= lastRegister
}

// write lays an instruction that fits into a word; what the format does not name is 0 in it, and leaves the word as it is.
func (f format) write(i api.Instr) uint32 {
	word := uint32(i.Rd)<<rdAt | uint32(i.Rs1)<<rs1At | uint32(i.Rs2)<<rs2At
	for _, p := range f.pieces() {
		word |= (uint32(i.Imm) >> p.imm & p.mask()) << p.word
	}
	return word
}
