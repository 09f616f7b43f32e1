package asm

import (
	"strconv"
	"strings"

	"oocore/api"
)

// slot is a kind of operand, and where in an instruction it stands.
type slot int

const (
	slotRd slot = iota
	slotRs1
	slotRs2
	slotRs1Number // of format D, whose Rs1 is no register
	slotImm
	slotPlace  // Imm, and Rs1 in brackets
	slotBare   // Rs1 in brackets
	slotTarget // Imm, or a label that it waits for
)

// How many digits a number may have.
const (
	decimalDigits = 10
	hexDigits     = 8
)

const maxLabel = 16

func (s slot) print(i api.Instr) string {
	switch s {
	case slotRd:
		return registerName(i.Rd)
	case slotRs1:
		return registerName(i.Rs1)
	case slotRs2:
		return registerName(i.Rs2)
	case slotRs1Number:
		return strconv.Itoa(i.Rs1)
	case slotPlace:
		return strconv.Itoa(i.Imm) + "(" + registerName(i.Rs1) + ")"
	case slotBare:
		return "(" + registerName(i.Rs1) + ")"
	}
	return strconv.Itoa(i.Imm)
}

// fill reads one part for each slot into an instruction; with it goes the label of its target, if that is one. Whether its numbers fit is asked later, since a line's syntax comes first.
func (v vocabulary) fill(i api.Instr, parts []string, slots ...slot) (api.Instr, string) {
	if len(parts) != len(slots) {
		panic(api.ErrSyntax)
	}
	label := ""
	for k, part := range parts {
		switch slots[k] {
		case slotRd:
			i.Rd = v.register(part)
		case slotRs1:
			i.Rs1 = v.register(part)
		case slotRs2:
			i.Rs2 = v.register(part)
		case slotRs1Number:
			i.Rs1 = number(part)
		case slotImm:
			i.Imm = number(part)
		case slotPlace:
			i.Imm, i.Rs1 = v.place(part)
		case slotBare:
			i.Rs1 = v.bracketed(part)
		case slotTarget:
			i.Imm, label = target(part)
		}
	}
	return i, label
}

func (v vocabulary) register(part string) int {
	n, ok := v.registers[part]
	if !ok {
		panic(api.ErrSyntax)
	}
	return n
}

func (v vocabulary) place(part string) (int, int) {
	open := strings.Index(part, "(")
	if open <= 0 {
		return 0, v.bracketed(part)
	}
	return number(part[:open]), v.bracketed(part[open:])
}

func (v vocabulary) bracketed(part string) int {
	inner, opened := strings.CutPrefix(part, "(")
	inner, closed := strings.CutSuffix(inner, ")")
	if !opened || !closed {
		panic(api.ErrSyntax)
	}
	return v.register(inner)
}

func target(part string) (int, string) {
	if isLabel(part) {
		return 0, part
	}
	return number(part), ""
}

func number(part string) int {
	digits, below := strings.CutPrefix(part, "-")
	base, most := 10, decimalDigits
	if rest, ok := strings.CutPrefix(digits, "0x"); ok {
		digits, base, most = rest, 16, hexDigits
	}
	if digits == "" || len(digits) > most {
		panic(api.ErrSyntax)
	}
	n := 0
	for _, sign := range digits {
		d := digit(sign)
		if d < 0 || d >= base {
			panic(api.ErrSyntax)
		}
		n = n*base + d
	}
	if below {
		n = -n
	}
	return n
}

// digit gives -1 of what is none, in whatever base.
func digit(sign rune) int {
	switch {
	case '0' <= sign && sign <= '9':
		return int(sign - '0')
	case 'a' <= sign && sign <= 'f':
		return int(sign-'a') + 10
	case 'A' <= sign && sign <= 'F':
		return int(sign-'A') + 10
	}
	return -1
}

func isLabel(name string) bool {
	if name == "" || len(name) > maxLabel {
		return false
	}
	for at, sign := range name {
		isDigit := '0' <= sign && sign <= '9'
		if !isLetter(sign) && sign != '_' && !(isDigit && at > 0) {
			return false
		}
	}
	return true
}

func isLetter(sign rune) bool {
	return 'a' <= sign && sign <= 'z' || 'A' <= sign && sign <= 'Z'
}
