package isa_test

import (
	"math"

	"oocore/api"
)

// row says of an operation what the chapter's two tables say, in another way than the program: the bits that its words have (match) among those that are fixed (mask), which fields a word has, and the ends of Imm.
type row struct {
	op           api.Op
	format       byte
	match, mask  uint32
	rd, rs1, rs2 bool
	low, high    int
	step         int
}

// kind is what all operations of a format have in common.
type kind struct {
	mask            uint32
	rd, rs1, rs2    bool
	low, high, step int
}

var kinds = map[byte]kind{
	'U': {0x0000007f, true, false, false, 0, 0xfffff, 1},
	'J': {0x0000007f, true, false, false, -1048576, 1048574, 2},
	'I': {0x0000707f, true, true, false, -2048, 2047, 1},
	'L': {0x0000707f, true, true, false, -2048, 2047, 1},
	'B': {0x0000707f, false, true, true, -4096, 4094, 2},
	'S': {0x0000707f, false, true, true, -2048, 2047, 1},
	'H': {0xfe00707f, true, true, false, 0, 31, 1},
	'R': {0xfe00707f, true, true, true, 0, 0, 1},
	'A': {0xf800707f, true, true, true, 0, 3, 1},
	'K': {0xf9f0707f, true, true, false, 0, 3, 1},
	'F': {0xf00fffff, false, false, false, 0, 255, 1},
	'N': {0xffffffff, false, false, false, 0, 0, 1},
	'C': {0x0000707f, true, true, false, 0, 4095, 1},
	'D': {0x0000707f, true, true, false, 0, 4095, 1},
}

// listed are the operations in the order of their numbers, from 1 on.
var listed = []struct {
	format byte
	match  uint32
}{
	{'U', 0x00000037}, {'U', 0x00000017}, {'J', 0x0000006f}, {'L', 0x00000067},
	{'B', 0x00000063}, {'B', 0x00001063}, {'B', 0x00004063}, {'B', 0x00005063},
	{'B', 0x00006063}, {'B', 0x00007063}, {'L', 0x00000003}, {'L', 0x00001003},
	{'L', 0x00002003}, {'L', 0x00004003}, {'L', 0x00005003}, {'S', 0x00000023},
	{'S', 0x00001023}, {'S', 0x00002023}, {'I', 0x00000013}, {'I', 0x00002013},
	{'I', 0x00003013}, {'I', 0x00004013}, {'I', 0x00006013}, {'I', 0x00007013},
	{'H', 0x00001013}, {'H', 0x00005013}, {'H', 0x40005013}, {'R', 0x00000033},
	{'R', 0x40000033}, {'R', 0x00001033}, {'R', 0x00002033}, {'R', 0x00003033},
	{'R', 0x00004033}, {'R', 0x00005033}, {'R', 0x40005033}, {'R', 0x00006033},
	{'R', 0x00007033}, {'R', 0x02000033}, {'R', 0x02001033}, {'R', 0x02002033},
	{'R', 0x02003033}, {'R', 0x02004033}, {'R', 0x02005033}, {'R', 0x02006033},
	{'R', 0x02007033}, {'K', 0x1000202f}, {'A', 0x1800202f}, {'A', 0x0800202f},
	{'A', 0x0000202f}, {'A', 0x2000202f}, {'A', 0x6000202f}, {'A', 0x4000202f},
	{'A', 0x8000202f}, {'A', 0xa000202f}, {'A', 0xc000202f}, {'A', 0xe000202f},
	{'F', 0x0000000f}, {'N', 0x00000073}, {'N', 0x00100073}, {'N', 0x30200073},
	{'N', 0x10500073}, {'C', 0x00001073}, {'C', 0x00002073}, {'C', 0x00003073},
	{'D', 0x00005073}, {'D', 0x00006073}, {'D', 0x00007073},
}

func rows() []row {
	var out []row
	for n, l := range listed {
		k := kinds[l.format]
		out = append(out, row{api.Op(n + 1), l.format, l.match, k.mask, k.rd, k.rs1, k.rs2, k.low, k.high, k.step})
	}
	return out
}

// noOps are numbers that are no operation.
var noOps = []api.Op{api.Illegal, -1, -2, -67, math.MinInt, api.Csrrci + 1, api.Csrrci + 2, 128, 256 + 19, 1<<32 + 19, math.MaxInt}

// wholeImm reads a word's Imm bit by bit, as the formats' table lists the bits.
func wholeImm(format byte, w uint32) int {
	bit := func(at, to int) int { return int(w>>at&1) << to }
	run := func(at, to, n int) int {
		sum := 0
		for k := range n {
			sum |= bit(at+k, to+k)
		}
		return sum
	}
	negative := int(w >> 31)
	switch format {
	case 'U':
		return run(12, 0, 20)
	case 'J':
		return run(21, 1, 10) + bit(20, 11) + run(12, 12, 8) - negative<<20
	case 'I', 'L':
		return run(20, 0, 11) - negative<<11
	case 'B':
		return run(25, 5, 6) + run(8, 1, 4) + bit(7, 11) - negative<<12
	case 'S':
		return run(25, 5, 6) + run(7, 0, 5) - negative<<11
	case 'H':
		return run(20, 0, 5)
	case 'A', 'K':
		return run(25, 0, 2)
	case 'F':
		return run(20, 0, 8)
	case 'C', 'D':
		return run(20, 0, 12)
	}
	return 0
}

// wanted is the instruction of a word by the rows above.
func wanted(all []row, w uint32) (api.Instr, bool) {
	for _, r := range all {
		if w&r.mask != r.match {
			continue
		}
		i := api.Instr{Op: r.op, Imm: wholeImm(r.format, w)}
		if r.rd {
			i.Rd = int(w >> 7 & 31)
		}
		if r.rs1 {
			i.Rs1 = int(w >> 15 & 31)
		}
		if r.rs2 {
			i.Rs2 = int(w >> 20 & 31)
		}
		return i, true
	}
	return api.Instr{}, false
}
