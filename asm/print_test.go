package asm_test

import (
	"math"
	"strings"
	"testing"

	"oocore/api"
	"oocore/asm"
	"oocore/isa"
)

func TestPrintEnds(t *testing.T) {
	for _, c := range []struct {
		i    api.Instr
		want string
	}{
		{api.Instr{Op: api.Lui}, "lui x0, 0"},
		{api.Instr{Op: api.Auipc, Rd: 31, Imm: 0xfffff}, "auipc x31, 1048575"},
		{api.Instr{Op: api.Jal, Rd: 31, Imm: -1 << 20}, "jal x31, -1048576"},
		{api.Instr{Op: api.Jal, Imm: 1<<20 - 2}, "jal x0, 1048574"},
		{api.Instr{Op: api.Jalr}, "jalr x0, 0(x0)"},
		{api.Instr{Op: api.Addi, Imm: -2048}, "addi x0, x0, -2048"},
		{api.Instr{Op: api.Addi, Imm: 2047}, "addi x0, x0, 2047"},
		{api.Instr{Op: api.Lw, Rd: 31, Rs1: 31, Imm: 2047}, "lw x31, 2047(x31)"},
		{api.Instr{Op: api.Lw, Rd: 9, Rs1: 10, Imm: -1}, "lw x9, -1(x10)"},
		{api.Instr{Op: api.Sb, Rs1: 31, Imm: -2048}, "sb x0, -2048(x31)"},
		{api.Instr{Op: api.Sb, Rs2: 31}, "sb x31, 0(x0)"},
		{api.Instr{Op: api.Beq, Rs1: 31, Imm: -4096}, "beq x31, x0, -4096"},
		{api.Instr{Op: api.Beq, Rs2: 31, Imm: 4094}, "beq x0, x31, 4094"},
		{api.Instr{Op: api.Srai, Rd: 1, Rs1: 2}, "srai x1, x2, 0"},
		{api.Instr{Op: api.Srai, Rd: 1, Rs1: 2, Imm: 31}, "srai x1, x2, 31"},
		{api.Instr{Op: api.Sub, Rs1: 31}, "sub x0, x31, x0"},
		{api.Instr{Op: api.Fence}, "fence 0"},
		{api.Instr{Op: api.Fence, Imm: 255}, "fence 255"},
		{api.Instr{Op: api.Csrrs}, "csrrs x0, 0, x0"},
		{api.Instr{Op: api.Csrrs, Rd: 31, Rs1: 31, Imm: 4095}, "csrrs x31, 4095, x31"},
		{api.Instr{Op: api.Csrrsi}, "csrrsi x0, 0, 0"},
		{api.Instr{Op: api.Csrrsi, Rd: 31, Rs1: 31, Imm: 4095}, "csrrsi x31, 4095, 31"},
	} {
		if got := asm.Print(c.i); got != c.want {
			t.Errorf("A1: Print(%+v) = %q, want %q", c.i, got, c.want)
		}
	}
}

func TestPrintOrders(t *testing.T) {
	orders := []string{"", ".rl", ".aq", ".aqrl"}
	for op := api.LrW; op <= api.AmoMaxu; op++ {
		plain := asm.Print(api.Instr{Op: op, Rd: 1, Rs1: 2})
		name, operands, _ := strings.Cut(plain, " ")
		if !strings.HasSuffix(name, ".w") {
			t.Errorf("A1: operation %d without an order is %q", op, plain)
		}
		for imm, order := range orders {
			want := name + order + " " + operands
			if got := asm.Print(api.Instr{Op: op, Rd: 1, Rs1: 2, Imm: imm}); got != want {
				t.Errorf("A1: operation %d with Imm %d is %q, want %q", op, imm, got, want)
			}
		}
	}
}

// What has no word has no text, whatever is wrong with it.
func TestPrintNone(t *testing.T) {
	numbers := []int{math.MinInt, -1 << 32, -1<<20 - 1, -4097, -2049, -1, 1, 3, 4, 31, 32, 255, 256, 2047, 2048, 4095, 4096, 1<<20 - 1, 1 << 20, 1 << 32, math.MaxInt}
	for _, op := range []api.Op{math.MinInt, -1, api.Illegal, api.Csrrci + 1, 1 << 32, math.MaxInt} {
		if got := asm.Print(api.Instr{Op: op}); got != "" {
			t.Errorf("A1: Print of operation %d is %q", op, got)
		}
	}
	for op := api.Lui; op <= api.Csrrci; op++ {
		for _, n := range numbers {
			for _, i := range []api.Instr{{Op: op, Rd: n}, {Op: op, Rs1: n}, {Op: op, Rs2: n}, {Op: op, Imm: n}} {
				_, ok := isa.Encode(i)
				if got := asm.Print(i); (got != "") != ok {
					t.Errorf("A1: Print(%+v) = %q, and Encode says %v", i, got, ok)
				}
			}
		}
	}
}

// What is printed is read again as it was: each operation, with the numbers at its ends and some between, and registers at theirs.
func TestPrintedIsRead(t *testing.T) {
	for op := api.Lui; op <= api.Csrrci; op++ {
		for _, n := range []int{0, 1, 2, 3, 30, 31, 254, 255, 1366, 2046, 2047, 2048, 4094, 4095, 699050, 1<<20 - 2, 1<<20 - 1, -1, -2, -1366, -2048, -4096, -1 << 20} {
			for _, r := range []int{0, 1, 15, 31} {
				for _, i := range []api.Instr{{Op: op, Rd: r, Imm: n}, {Op: op, Rs1: r, Imm: n}, {Op: op, Rs2: r, Imm: n}, {Op: op, Rd: r, Rs1: 31 - r, Imm: n}, {Op: op, Rd: r, Rs1: 31 - r, Rs2: 7, Imm: n}} {
					if w, ok := isa.Encode(i); ok {
						fine(t, "A1, A4", asm.Print(i), w)
					}
				}
			}
		}
	}
}
