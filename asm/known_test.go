package asm_test

import (
	"testing"

	"oocore/api"
	"oocore/asm"
)

// known has one instruction of each operation, as it is written here, and the word that another assembler makes of it.
var known = []struct {
	i    api.Instr
	text string
	word uint32
}{
	{api.Instr{Op: api.Lui, Rd: 8, Imm: 70001}, "lui x8, 70001", 0x11171437},
	{api.Instr{Op: api.Auipc, Rd: 15, Imm: 140002}, "auipc x15, 140002", 0x222e2797},
	{api.Instr{Op: api.Jal, Rd: 22, Imm: -6006}, "jal x22, -6006", 0x88bfeb6f},
	{api.Instr{Op: api.Jalr, Rd: 29, Rs1: 14, Imm: 1940}, "jalr x29, 1940(x14)", 0x79470ee7},
	{api.Instr{Op: api.Beq, Rs1: 25, Rs2: 6, Imm: 1914}, "beq x25, x6, 1914", 0x766c8d63},
	{api.Instr{Op: api.Bne, Rs1: 4, Rs2: 19, Imm: 3116}, "bne x4, x19, 3116", 0x433216e3},
	{api.Instr{Op: api.Blt, Rs1: 15, Rs2: 0, Imm: -3874}, "blt x15, x0, -3874", 0x8c07cf63},
	{api.Instr{Op: api.Bge, Rs1: 26, Rs2: 13, Imm: -2672}, "bge x26, x13, -2672", 0xd8dd5863},
	{api.Instr{Op: api.Bltu, Rs1: 5, Rs2: 26, Imm: -1470}, "bltu x5, x26, -1470", 0xa5a2e1e3},
	{api.Instr{Op: api.Bgeu, Rs1: 16, Rs2: 7, Imm: -268}, "bgeu x16, x7, -268", 0xee787ae3},
	{api.Instr{Op: api.Lb, Rd: 14, Rs1: 27, Imm: 727}, "lb x14, 727(x27)", 0x2d7d8703},
	{api.Instr{Op: api.Lh, Rd: 21, Rs1: 6, Imm: 1724}, "lh x21, 1724(x6)", 0x6bc31a83},
	{api.Instr{Op: api.Lw, Rd: 28, Rs1: 17, Imm: -1375}, "lw x28, -1375(x17)", 0xaa18ae03},
	{api.Instr{Op: api.Lbu, Rd: 3, Rs1: 28, Imm: -378}, "lbu x3, -378(x28)", 0xe86e4183},
	{api.Instr{Op: api.Lhu, Rd: 10, Rs1: 7, Imm: 619}, "lhu x10, 619(x7)", 0x26b3d503},
	{api.Instr{Op: api.Sb, Rs1: 18, Rs2: 21, Imm: 1616}, "sb x21, 1616(x18)", 0x65590823},
	{api.Instr{Op: api.Sh, Rs1: 29, Rs2: 2, Imm: -1483}, "sh x2, -1483(x29)", 0xa22e9aa3},
	{api.Instr{Op: api.Sw, Rs1: 8, Rs2: 15, Imm: -486}, "sw x15, -486(x8)", 0xe0f42d23},
	{api.Instr{Op: api.Addi, Rd: 6, Rs1: 19, Imm: 511}, "addi x6, x19, 511", 0x1ff98313},
	{api.Instr{Op: api.Slti, Rd: 13, Rs1: 30, Imm: 1508}, "slti x13, x30, 1508", 0x5e4f2693},
	{api.Instr{Op: api.Sltiu, Rd: 20, Rs1: 9, Imm: -1591}, "sltiu x20, x9, -1591", 0x9c94ba13},
	{api.Instr{Op: api.Xori, Rd: 27, Rs1: 20, Imm: -594}, "xori x27, x20, -594", 0xdaea4d93},
	{api.Instr{Op: api.Ori, Rd: 2, Rs1: 31, Imm: 403}, "ori x2, x31, 403", 0x193fe113},
	{api.Instr{Op: api.Andi, Rd: 9, Rs1: 10, Imm: 1400}, "andi x9, x10, 1400", 0x57857493},
	{api.Instr{Op: api.Slli, Rd: 16, Rs1: 21, Imm: 15}, "slli x16, x21, 15", 0x00fa9813},
	{api.Instr{Op: api.Srli, Rd: 23, Rs1: 0, Imm: 22}, "srli x23, x0, 22", 0x01605b93},
	{api.Instr{Op: api.Srai, Rd: 30, Rs1: 11, Imm: 29}, "srai x30, x11, 29", 0x41d5df13},
	{api.Instr{Op: api.Add, Rd: 5, Rs1: 22, Rs2: 17}, "add x5, x22, x17", 0x011b02b3},
	{api.Instr{Op: api.Sub, Rd: 12, Rs1: 1, Rs2: 30}, "sub x12, x1, x30", 0x41e08633},
	{api.Instr{Op: api.Sll, Rd: 19, Rs1: 12, Rs2: 11}, "sll x19, x12, x11", 0x00b619b3},
	{api.Instr{Op: api.Slt, Rd: 26, Rs1: 23, Rs2: 24}, "slt x26, x23, x24", 0x018bad33},
	{api.Instr{Op: api.Sltu, Rd: 1, Rs1: 2, Rs2: 5}, "sltu x1, x2, x5", 0x005130b3},
	{api.Instr{Op: api.Xor, Rd: 8, Rs1: 13, Rs2: 18}, "xor x8, x13, x18", 0x0126c433},
	{api.Instr{Op: api.Srl, Rd: 15, Rs1: 24, Rs2: 31}, "srl x15, x24, x31", 0x01fc57b3},
	{api.Instr{Op: api.Sra, Rd: 22, Rs1: 3, Rs2: 12}, "sra x22, x3, x12", 0x40c1db33},
	{api.Instr{Op: api.Or, Rd: 29, Rs1: 14, Rs2: 25}, "or x29, x14, x25", 0x01976eb3},
	{api.Instr{Op: api.And, Rd: 4, Rs1: 25, Rs2: 6}, "and x4, x25, x6", 0x006cf233},
	{api.Instr{Op: api.Mul, Rd: 11, Rs1: 4, Rs2: 19}, "mul x11, x4, x19", 0x033205b3},
	{api.Instr{Op: api.Mulh, Rd: 18, Rs1: 15, Rs2: 0}, "mulh x18, x15, x0", 0x02079933},
	{api.Instr{Op: api.Mulhsu, Rd: 25, Rs1: 26, Rs2: 13}, "mulhsu x25, x26, x13", 0x02dd2cb3},
	{api.Instr{Op: api.Mulhu, Rd: 0, Rs1: 5, Rs2: 26}, "mulhu x0, x5, x26", 0x03a2b033},
	{api.Instr{Op: api.Div, Rd: 7, Rs1: 16, Rs2: 7}, "div x7, x16, x7", 0x027843b3},
	{api.Instr{Op: api.Divu, Rd: 14, Rs1: 27, Rs2: 20}, "divu x14, x27, x20", 0x034dd733},
	{api.Instr{Op: api.Rem, Rd: 21, Rs1: 6, Rs2: 1}, "rem x21, x6, x1", 0x02136ab3},
	{api.Instr{Op: api.Remu, Rd: 28, Rs1: 17, Rs2: 14}, "remu x28, x17, x14", 0x02e8fe33},
	{api.Instr{Op: api.LrW, Rd: 3, Rs1: 28, Imm: 3}, "lr.w.aqrl x3, (x28)", 0x160e21af},
	{api.Instr{Op: api.ScW, Rd: 10, Rs1: 7, Rs2: 8, Imm: 3}, "sc.w.aqrl x10, x8, (x7)", 0x1e83a52f},
	{api.Instr{Op: api.AmoSwap, Rd: 17, Rs1: 18, Rs2: 21}, "amoswap.w x17, x21, (x18)", 0x095928af},
	{api.Instr{Op: api.AmoAdd, Rd: 24, Rs1: 29, Rs2: 2, Imm: 1}, "amoadd.w.rl x24, x2, (x29)", 0x022eac2f},
	{api.Instr{Op: api.AmoXor, Rd: 31, Rs1: 8, Rs2: 15, Imm: 2}, "amoxor.w.aq x31, x15, (x8)", 0x24f42faf},
	{api.Instr{Op: api.AmoAnd, Rd: 6, Rs1: 19, Rs2: 28, Imm: 3}, "amoand.w.aqrl x6, x28, (x19)", 0x67c9a32f},
	{api.Instr{Op: api.AmoOr, Rd: 13, Rs1: 30, Rs2: 9}, "amoor.w x13, x9, (x30)", 0x409f26af},
	{api.Instr{Op: api.AmoMin, Rd: 20, Rs1: 9, Rs2: 22, Imm: 1}, "amomin.w.rl x20, x22, (x9)", 0x8364aa2f},
	{api.Instr{Op: api.AmoMax, Rd: 27, Rs1: 20, Rs2: 3, Imm: 2}, "amomax.w.aq x27, x3, (x20)", 0xa43a2daf},
	{api.Instr{Op: api.AmoMinu, Rd: 2, Rs1: 31, Rs2: 16, Imm: 3}, "amominu.w.aqrl x2, x16, (x31)", 0xc70fa12f},
	{api.Instr{Op: api.AmoMaxu, Rd: 9, Rs1: 10, Rs2: 29}, "amomaxu.w x9, x29, (x10)", 0xe1d524af},
	{api.Instr{Op: api.Fence, Imm: 165}, "fence 165", 0x0a50000f},
	{api.Instr{Op: api.Ecall}, "ecall", 0x00000073},
	{api.Instr{Op: api.Ebreak}, "ebreak", 0x00100073},
	{api.Instr{Op: api.Mret}, "mret", 0x30200073},
	{api.Instr{Op: api.Wfi}, "wfi", 0x10500073},
	{api.Instr{Op: api.Csrrw, Rd: 19, Rs1: 12, Imm: 3782}, "csrrw x19, 3782, x12", 0xec6619f3},
	{api.Instr{Op: api.Csrrs, Rd: 26, Rs1: 23, Imm: 3843}, "csrrs x26, 3843, x23", 0xf03bad73},
	{api.Instr{Op: api.Csrrc, Rd: 1, Rs1: 2, Imm: 3904}, "csrrc x1, 3904, x2", 0xf40130f3},
	{api.Instr{Op: api.Csrrwi, Rd: 8, Rs1: 13, Imm: 3965}, "csrrwi x8, 3965, 13", 0xf7d6d473},
	{api.Instr{Op: api.Csrrsi, Rd: 15, Rs1: 24, Imm: 4026}, "csrrsi x15, 4026, 24", 0xfbac67f3},
	{api.Instr{Op: api.Csrrci, Rd: 22, Rs1: 3, Imm: 4087}, "csrrci x22, 4087, 3", 0xff71fb73},
}

func TestKnownAreAll(t *testing.T) {
	for n, k := range known {
		if int(k.i.Op) != n+1 {
			t.Fatalf("row %d is of operation %d", n, k.i.Op)
		}
	}
	if len(known) != int(api.Csrrci) {
		t.Fatalf("%d rows, want %d", len(known), int(api.Csrrci))
	}
}

func TestPrintKnown(t *testing.T) {
	for _, k := range known {
		if got := asm.Print(k.i); got != k.text {
			t.Errorf("A1: Print(%+v) = %q, want %q", k.i, got, k.text)
		}
	}
}

func TestAssembleKnown(t *testing.T) {
	for _, k := range known {
		fine(t, "A4", k.text, k.word)
	}
}
