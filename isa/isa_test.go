package isa_test

import (
	"math"
	"testing"

	"oocore/api"
	"oocore/isa"
)

func checkDecode(t *testing.T, all []row, w uint32) {
	t.Helper()
	want, is := wanted(all, w)
	if got, ok := isa.Decode(w); ok != is || got != want {
		t.Errorf("I1: Decode(%08x) = %+v, %v, want %+v, %v", w, got, ok, want, is)
	}
}

func checkBoth(t *testing.T, w uint32, i api.Instr) {
	t.Helper()
	if got, ok := isa.Decode(w); !ok || got != i {
		t.Errorf("I1: Decode(%08x) = %+v, %v, want %+v", w, got, ok, i)
	}
	if got, ok := isa.Encode(i); !ok || got != w {
		t.Errorf("I2: Encode(%+v) = %08x, %v, want %08x", i, got, ok, w)
	}
}

func checkNone(t *testing.T, i api.Instr) {
	t.Helper()
	if got, ok := isa.Encode(i); ok || got != 0 {
		t.Errorf("I2: Encode(%+v) = %08x, %v, want 0, false", i, got, ok)
	}
}

// Words as other tools write them, one at least of each format.
func TestKnownWords(t *testing.T) {
	for _, c := range []struct {
		w uint32
		i api.Instr
	}{
		{0xffd10093, api.Instr{Op: api.Addi, Rd: 1, Rs1: 2, Imm: -3}},
		{0x00832283, api.Instr{Op: api.Lw, Rd: 5, Rs1: 6, Imm: 8}},
		{0x80000fb7, api.Instr{Op: api.Lui, Rd: 31, Imm: 0x80000}},
		{0x00001517, api.Instr{Op: api.Auipc, Rd: 10, Imm: 1}},
		{0x800000ef, api.Instr{Op: api.Jal, Rd: 1, Imm: -1048576}},
		{0x7ffff0ef, api.Instr{Op: api.Jal, Rd: 1, Imm: 1048574}},
		{0x0010006f, api.Instr{Op: api.Jal, Imm: 2048}},
		{0xffc080e7, api.Instr{Op: api.Jalr, Rd: 1, Rs1: 1, Imm: -4}},
		{0x80208063, api.Instr{Op: api.Beq, Rs1: 1, Rs2: 2, Imm: -4096}},
		{0x7e20ffe3, api.Instr{Op: api.Bgeu, Rs1: 1, Rs2: 2, Imm: 4094}},
		{0x002090e3, api.Instr{Op: api.Bne, Rs1: 1, Rs2: 2, Imm: 2048}},
		{0x80532023, api.Instr{Op: api.Sw, Rs1: 6, Rs2: 5, Imm: -2048}},
		{0x7e530fa3, api.Instr{Op: api.Sb, Rs1: 6, Rs2: 5, Imm: 2047}},
		{0x01f31293, api.Instr{Op: api.Slli, Rd: 5, Rs1: 6, Imm: 31}},
		{0x40135293, api.Instr{Op: api.Srai, Rd: 5, Rs1: 6, Imm: 1}},
		{0x41ff8b33, api.Instr{Op: api.Sub, Rd: 22, Rs1: 31, Rs2: 31}},
		{0x03df7fb3, api.Instr{Op: api.Remu, Rd: 31, Rs1: 30, Rs2: 29}},
		{0x1405252f, api.Instr{Op: api.LrW, Rd: 10, Rs1: 10, Imm: 2}},
		{0xe6c5a52f, api.Instr{Op: api.AmoMaxu, Rd: 10, Rs1: 11, Rs2: 12, Imm: 3}},
		{0x0ff0000f, api.Instr{Op: api.Fence, Imm: 255}},
		{0x00000073, api.Instr{Op: api.Ecall}},
		{0x00100073, api.Instr{Op: api.Ebreak}},
		{0x30200073, api.Instr{Op: api.Mret}},
		{0x10500073, api.Instr{Op: api.Wfi}},
		{0xfff0a0f3, api.Instr{Op: api.Csrrs, Rd: 1, Rs1: 1, Imm: 4095}},
		{0x3000f073, api.Instr{Op: api.Csrrci, Rs1: 1, Imm: 0x300}},
	} {
		checkBoth(t, c.w, c.i)
	}
}

// Each operation's word with nothing in its fields, with all in them, and each of these with one bit turned: also turned bits that are fixed, which make another instruction, or none.
func TestDecodeRows(t *testing.T) {
	all := rows()
	if len(all) != int(api.Csrrci) {
		t.Fatalf("%d rows, want %d", len(all), int(api.Csrrci))
	}
	for _, r := range all {
		for _, w := range []uint32{r.match, r.match | ^r.mask, r.match | 0x55555555&^r.mask, r.match | 0xaaaaaaaa&^r.mask} {
			if i, ok := isa.Decode(w); !ok || i.Op != r.op {
				t.Errorf("I1: Decode(%08x) = %+v, %v, want operation %d", w, i, ok, r.op)
			}
			checkDecode(t, all, w)
			for bit := range 32 {
				checkDecode(t, all, w^1<<bit)
			}
		}
	}
}

// All f and g with each code, and some registers: what is no row is no instruction.
func TestDecodeGrid(t *testing.T) {
	all := rows()
	for code := range uint32(128) {
		for f := range uint32(8) {
			for g := range uint32(128) {
				for _, rest := range []uint32{0, 0x00000080, 0x00008000, 0x00100000, 0x01ff8f80} {
					checkDecode(t, all, code|f<<12|g<<25|rest)
				}
			}
		}
	}
}

func TestDecodeNone(t *testing.T) {
	for _, w := range []uint32{
		0x00000000, 0xffffffff, // all bits alike
		0x00000012, 0x00000010, 0x0000007f, // codes that no row has
		0x00001067, 0x00002063, 0x00003063, 0x00003003, 0x00006003, 0x00007003, 0x00003023, 0x00007023, // f
		0x02001013, 0x40001013, 0x02005013, 0x60005013, // g of format H
		0x40001033, 0x40004033, 0x40007033, 0x04000033, 0x42000033, 0xfe000033, // g of format R
		0x0000302f, 0x0000002f, 0x2800202f, 0x3000202f, 0xe800202f, // f and g of format A
		0x1010202f, 0x11f0202f, 0x17f0202f, // lr.w with an rs2
		0x1000000f, 0x8000000f, 0x0000808f, 0x0000100f, 0x0000008f, 0x0000800f, // around format F's number
		0x00200073, 0x30300073, 0x10400073, 0x000000f3, 0x00008073, 0x00004073, 0x80000073, // around format N
	} {
		if i, ok := isa.Decode(w); ok || i != (api.Instr{}) {
			t.Errorf("I1: Decode(%08x) = %+v, %v, want false", w, i, ok)
		}
	}
}

// Each operation with the ends of its Imm and registers, and what is between; then one step over each end.
func TestEncodeEnds(t *testing.T) {
	for _, r := range rows() {
		for _, imm := range []int{r.low, r.low / 4 * r.step, 0, r.high / 4 * r.step, r.high} {
			checkBack(t, r, last(r, imm))
			checkBack(t, r, api.Instr{Op: r.op, Imm: imm})
		}
		for _, imm := range []int{r.low - 1, r.low - r.step, r.high + 1, r.high + r.step, math.MinInt, math.MinInt + 1, math.MaxInt, math.MaxInt - 1, r.low - 1<<32, r.high + 1<<32, 1 << 40} {
			checkNone(t, api.Instr{Op: r.op, Imm: imm})
			checkNone(t, last(r, imm))
		}
	}
}

// last is an operation with the last register in each field that it has.
func last(r row, imm int) api.Instr {
	i := api.Instr{Op: r.op, Imm: imm}
	if r.rd {
		i.Rd = 31
	}
	if r.rs1 {
		i.Rs1 = 31
	}
	if r.rs2 {
		i.Rs2 = 31
	}
	return i
}

func checkBack(t *testing.T, r row, i api.Instr) {
	t.Helper()
	w, ok := isa.Encode(i)
	if !ok || w&r.mask != r.match {
		t.Errorf("I2: Encode(%+v) = %08x, %v, want %08x in the bits of %08x", i, w, ok, r.match, r.mask)
		return
	}
	if back, ok := wanted(rows(), w); !ok || back != i {
		t.Errorf("I2: Encode(%+v) = %08x, which is the word of %+v", i, w, back)
	}
	if back, ok := isa.Decode(w); !ok || back != i {
		t.Errorf("I1: Decode(%08x) = %+v, %v, want %+v", w, back, ok, i)
	}
}

func TestEncodeEveryImm(t *testing.T) {
	for _, op := range []api.Op{api.Jalr, api.Beq, api.Lw, api.Sw, api.Addi, api.Slli, api.AmoAdd, api.LrW, api.Fence, api.Csrrw, api.Csrrwi} {
		r := rows()[op-1]
		for imm := r.low; imm <= r.high; imm += r.step {
			w, ok := isa.Encode(last(r, imm))
			if got := wholeImm(r.format, w); !ok || got != imm {
				t.Errorf("I2: Encode of operation %d with %d: %08x, %v, whose number is %d", op, imm, w, ok, got)
			}
		}
	}
}

// Odd numbers have no place in the formats J and B.
func TestEncodeOdd(t *testing.T) {
	for _, r := range rows() {
		if r.step != 2 {
			continue
		}
		for _, imm := range []int{1, 3, -1, -3, r.low + 1, r.high - 1, 2047, -2047} {
			checkNone(t, api.Instr{Op: r.op, Imm: imm})
		}
	}
}

func TestEncodeRegisters(t *testing.T) {
	for _, r := range rows() {
		for _, field := range []struct {
			named bool
			with  func(n int) api.Instr
		}{
			{r.rd, func(n int) api.Instr { return api.Instr{Op: r.op, Rd: n} }},
			{r.rs1, func(n int) api.Instr { return api.Instr{Op: r.op, Rs1: n} }},
			{r.rs2, func(n int) api.Instr { return api.Instr{Op: r.op, Rs2: n} }},
		} {
			for n := 1; n < 32; n++ {
				if field.named {
					checkBack(t, r, field.with(n))
				} else {
					checkNone(t, field.with(n))
				}
			}
			for _, n := range []int{-1, -31, -32, 32, 33, 64, 1 << 32, 1<<32 + 1, math.MinInt, math.MaxInt} {
				checkNone(t, field.with(n))
			}
		}
	}
}

func TestEncodeNoOperation(t *testing.T) {
	for _, op := range noOps {
		checkNone(t, api.Instr{Op: op})
		checkNone(t, api.Instr{Op: op, Rd: 1, Rs1: 2, Rs2: 3, Imm: 4})
	}
}

// Every word that is read is written again as it was; every 4,093rd word of all is tried, an odd step that comes to all fields.
func TestBackAndForth(t *testing.T) {
	all := rows()
	for n := uint64(0); n < 1<<32; n += 4093 {
		w := uint32(n)
		want, is := wanted(all, w)
		i, ok := isa.Decode(w)
		if ok != is || i != want {
			t.Fatalf("I1: Decode(%08x) = %+v, %v, want %+v, %v", w, i, ok, want, is)
		}
		if back, ok := isa.Encode(i); ok != is || ok && back != w || !ok && back != 0 {
			t.Fatalf("I2: Encode(%+v) = %08x, %v, want %08x, %v", i, back, ok, w, is)
		}
	}
}

func TestClasses(t *testing.T) {
	classes := map[byte]api.Class{
		'U': api.Alu, 'I': api.Alu, 'H': api.Alu, 'R': api.Alu, 'J': api.Jump, 'L': api.Load, 'B': api.Branch,
		'S': api.Store, 'A': api.Atomic, 'K': api.Atomic, 'F': api.System, 'N': api.System, 'C': api.System, 'D': api.System,
	}
	for _, r := range rows() {
		want := classes[r.format]
		switch {
		case r.op == api.Jalr:
			want = api.Jump
		case r.op >= api.Mul && r.op <= api.Remu:
			want = api.Muldiv
		}
		if got := isa.ClassOf(r.op); got != want {
			t.Errorf("I3: ClassOf(%d) = %d, want %d", r.op, got, want)
		}
	}
	for _, op := range noOps {
		if got := isa.ClassOf(op); got != api.System {
			t.Errorf("I3: ClassOf(%d) = %d, want System", op, got)
		}
	}
}

func TestReadsAndWrites(t *testing.T) {
	for _, r := range rows() {
		a, b := isa.Reads(r.op)
		if a != (r.rs1 && r.format != 'D') || b != r.rs2 {
			t.Errorf("I3: Reads(%d) = %v, %v", r.op, a, b)
		}
		if got := isa.Writes(r.op); got != r.rd {
			t.Errorf("I3: Writes(%d) = %v", r.op, got)
		}
	}
	for _, op := range noOps {
		if a, b := isa.Reads(op); a || b || isa.Writes(op) {
			t.Errorf("I3: the number %d, which is no operation, reads %v, %v, writes %v", op, a, b, isa.Writes(op))
		}
	}
}
