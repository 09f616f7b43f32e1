package arch_test

import (
	"testing"

	"oocore/api"
)

// setup is 5 instructions: addresses and two numbers.
const setup = "lui x8, 16\nlui x9, 32\nli x1, -7\nli x2, 3\nnop\n"

const behind = 20 // the place behind setup

// Each class of instruction done once: what it tells, behind setup.
func TestDo(t *testing.T) {
	for _, c := range []struct {
		text   string
		loaded uint32
		held   bool
		rd     int
		value  uint32
		next   uint32
	}{
		{"lui x3, 0xfffff", 0, false, 3, 0xfffff000, behind + 4},
		{"auipc x3, 2", 0, false, 3, 0x2000 + behind, behind + 4},
		{"addi x3, x1, -1", 0, false, 3, 0xfffffff8, behind + 4},
		{"sltiu x3, x2, -1", 0, false, 3, 1, behind + 4},
		{"srai x3, x1, 1", 0, false, 3, 0xfffffffc, behind + 4},
		{"slli x3, x1, 31", 0, false, 3, 0x80000000, behind + 4},
		{"sub x3, x2, x1", 0, false, 3, 10, behind + 4},
		{"sra x1, x1, x2", 0, false, 1, 0xffffffff, behind + 4},
		{"mul x3, x1, x2", 0, false, 3, 0xffffffeb, behind + 4},
		{"div x3, x1, x2", 0, false, 3, 0xfffffffe, behind + 4},
		{"rem x3, x1, x2", 0, false, 3, 0xffffffff, behind + 4},
		{"mulhu x3, x1, x2", 0, false, 3, 2, behind + 4},
		{"divu x3, x1, x0", 0, false, 3, 0xffffffff, behind + 4},
		{"add x0, x1, x2", 0, false, 0, 0, behind + 4},
		{"beq x1, x1, -20", 0, false, 0, 0, 0},
		{"beq x1, x2, -20", 0, false, 0, 0, behind + 4},
		{"bne x1, x2, 4092", 0, false, 0, 0, behind + 4092},
		{"blt x1, x2, 8", 0, false, 0, 0, behind + 8},
		{"bltu x1, x2, 8", 0, false, 0, 0, behind + 4},
		{"bge x1, x2, 6", 0, false, 0, 0, behind + 4},
		{"bgeu x1, x2, -24", 0, false, 0, 0, 0xfffffffc},
		{"jal x3, -20", 0, false, 3, behind + 4, 0},
		{"jal x0, 1048572", 0, false, 0, 0, behind + 1048572},
		{"jalr x3, 1(x8)", 0, false, 3, behind + 4, 0x10000},
		{"jalr x2, 1(x2)", 0, false, 2, behind + 4, 4},
		{"jalr x0, -4(x0)", 0, false, 0, 0, 0xfffffffc},
		{"lb x3, 3(x8)", 0x12345680, true, 3, 0xffffff80, behind + 4},
		{"lbu x3, 3(x8)", 0x12345680, true, 3, 0x80, behind + 4},
		{"lh x3, 2(x8)", 0x1234fedc, true, 3, 0xfffffedc, behind + 4},
		{"lhu x3, 2(x8)", 0x1234fedc, false, 3, 0xfedc, behind + 4},
		{"lw x3, 4(x8)", 0x8234fedc, false, 3, 0x8234fedc, behind + 4},
		{"lw x8, 4(x8)", 5, false, 8, 5, behind + 4},
		{"lw x0, 4(x8)", 5, false, 0, 0, behind + 4},
		{"sb x1, 3(x8)", 5, true, 0, 0, behind + 4},
		{"sw x1, (x9)", 5, true, 0, 0, behind + 4},
		{"lr.w x3, (x8)", 0x80000001, false, 3, 0x80000001, behind + 4},
		{"sc.w x3, x1, (x8)", 5, true, 3, 0, behind + 4},
		{"sc.w x3, x1, (x8)", 5, false, 3, 1, behind + 4},
		{"sc.w x0, x1, (x8)", 5, false, 0, 0, behind + 4},
		{"amoadd.w x3, x1, (x8)", 5, true, 3, 5, behind + 4},
		{"amomaxu.w x1, x1, (x8)", 9, false, 1, 9, behind + 4},
		{"fence 255", 5, true, 0, 0, behind + 4},
		{"fence 0", 5, true, 0, 0, behind + 4},
		{"wfi", 5, true, 0, 0, behind + 4},
		{"mret", 5, true, 0, 0, 0},
		{"csrrw x3, 0x340, x1", 5, true, 3, 0, behind + 4},
		{"csrrs x3, 0xc02, x0", 5, true, 3, 5, behind + 4},
		{"csrrs x3, 0xf14, x0", 5, true, 3, 1, behind + 4},
	} {
		h := hart(t, setup+c.text, 16, 1)
		do(h, 5)
		before := [32]uint32{}
		for k := range before {
			before[k] = h.Reg(k)
		}
		before[c.rd] = c.value
		want := api.Retired{PC: behind, Word: assemble(t, setup+c.text)[5], Rd: c.rd, Value: c.value, Cause: api.None, Next: c.next}
		if got := h.Do(c.loaded, c.held); got != want {
			t.Errorf("H3: %s: %+v, want %+v", c.text, got, want)
		}
		for k, v := range before {
			if h.Reg(k) != v {
				t.Errorf("H3: behind %s x%d is %x, want %x", c.text, k, h.Reg(k), v)
			}
		}
		if h.PC() != c.next || h.Halted() || csr(t, h, api.Instret) != 6 {
			t.Errorf("H3: behind %s: at %x, halted %v, instret %d", c.text, h.PC(), h.Halted(), csr(t, h, api.Instret))
		}
	}
}

// What is asked of memory, behind setup, with 16 bytes of data.
func TestAsk(t *testing.T) {
	for _, c := range []struct {
		text string
		want api.Request
	}{
		{"lb x3, 15(x8)", api.Request{Op: api.Lb, Addr: 0x1000f, Size: 1}},
		{"lbu x1, (x8)", api.Request{Op: api.Lbu, Addr: 0x10000, Size: 1}},
		{"lh x3, 14(x8)", api.Request{Op: api.Lh, Addr: 0x1000e, Size: 2}},
		{"lhu x3, 2(x8)", api.Request{Op: api.Lhu, Addr: 0x10002, Size: 2}},
		{"lw x3, 12(x8)", api.Request{Op: api.Lw, Addr: 0x1000c, Size: 4}},
		{"sb x1, 5(x8)", api.Request{Op: api.Sb, Addr: 0x10005, Size: 1, Data: 0xf9}},
		{"sh x1, 6(x8)", api.Request{Op: api.Sh, Addr: 0x10006, Size: 2, Data: 0xfff9}},
		{"sw x1, 8(x8)", api.Request{Op: api.Sw, Addr: 0x10008, Size: 4, Data: 0xfffffff9}},
		{"sw x0, 8(x8)", api.Request{Op: api.Sw, Addr: 0x10008, Size: 4}},
		{"sb x1, 3(x9)", api.Request{Op: api.Sb, Addr: 0x20003, Size: 1, Data: 0xf9}},
		{"sh x1, 2(x9)", api.Request{Op: api.Sh, Addr: 0x20002, Size: 2, Data: 0xfff9}},
		{"sw x1, (x9)", api.Request{Op: api.Sw, Addr: 0x20000, Size: 4, Data: 0xfffffff9}},
		{"lr.w x3, (x8)", api.Request{Op: api.LrW, Addr: 0x10000, Size: 4}},
		{"lr.w.aqrl x3, (x8)", api.Request{Op: api.LrW, Addr: 0x10000, Size: 4}},
		{"sc.w.aq x3, x1, (x8)", api.Request{Op: api.ScW, Addr: 0x10000, Size: 4, Data: 0xfffffff9}},
		{"amoswap.w.rl x3, x2, (x8)", api.Request{Op: api.AmoSwap, Addr: 0x10000, Size: 4, Data: 3}},
		{"amominu.w x0, x1, (x8)", api.Request{Op: api.AmoMinu, Addr: 0x10000, Size: 4, Data: 0xfffffff9}},
		{"add x3, x1, x2", api.Request{}}, {"mul x3, x1, x2", api.Request{}}, {"beq x1, x2, 8", api.Request{}}, {"jal x3, 8", api.Request{}},
		{"fence 255", api.Request{}}, {"wfi", api.Request{}}, {"mret", api.Request{}}, {"ecall", api.Request{}}, {"ebreak", api.Request{}}, {"csrrw x3, 0x340, x1", api.Request{}},
		{".word 0", api.Request{}}, {"nop\n.word 3", api.Request{}}, {"", api.Request{}},
		{"lb x3, 16(x8)", api.Request{}}, {"lw x3, 1(x8)", api.Request{}}, {"lw x3, 16(x8)", api.Request{}}, {"lw x3, -4(x8)", api.Request{}}, {"lb x3, (x9)", api.Request{}},
		{"sb x3, 16(x8)", api.Request{}}, {"sh x3, 1(x8)", api.Request{}}, {"sb x3, 4(x9)", api.Request{}}, {"sb x3, -1(x9)", api.Request{}}, {"sw x3, (x0)", api.Request{}},
		{"lr.w x3, (x9)", api.Request{}}, {"sc.w x3, x1, (x9)", api.Request{}}, {"amoadd.w x3, x1, (x9)", api.Request{}}, {"amoadd.w x3, x1, (x2)", api.Request{}},
	} {
		h := hart(t, setup+c.text, 16, 0)
		do(h, 5)
		for range 3 {
			if got := h.Ask(); got != c.want {
				t.Errorf("H6: %s: Ask() = %+v, want %+v", c.text, got, c.want)
			}
		}
		if h.PC() != behind || h.Halted() || csr(t, h, api.Instret) != 5 {
			t.Errorf("H6: Ask of %s changes the hart", c.text)
		}
	}
}

// Behind its end a hart asks and does nothing.
func TestHalted(t *testing.T) {
	h := hart(t, "lui x8, 16\nlui x1, 0xfffff\nlw x1, 2(x8)\nsw x1, (x8)", 16, 0)
	if do(h, 3); !h.Halted() || h.PC() != 8 {
		t.Fatalf("H4: halted %v, at %x", h.Halted(), h.PC())
	}
	for range 3 {
		if r := h.Do(9, true); r != (api.Retired{PC: 8, Cause: api.None, Next: 8}) {
			t.Errorf("H6: Do of a halted hart: %+v", r)
		}
		if q := h.Ask(); q != (api.Request{}) {
			t.Errorf("H6: Ask of a halted hart: %+v", q)
		}
		if r, ok := h.Interrupt(); ok || r != (api.Retired{}) {
			t.Errorf("H5: Interrupt of a halted hart: %+v, %v", r, ok)
		}
	}
	if h.PC() != 8 || !h.Halted() || h.Reg(1) != 0xfffff000 || csr(t, h, api.Instret) != 2 {
		t.Errorf("H6: a halted hart has changed: at %x, x1 %x", h.PC(), h.Reg(1))
	}
}

// A halted hart at a load or store asks nothing either.
func TestHaltedByInterrupt(t *testing.T) {
	h := hart(t, "lui x8, 16\nlui x1, 1\nsrli x1, x1, 1\ncsrrw x0, 0x304, x1\ncsrrwi x0, 0x300, 8\nsw x1, (x8)", 16, 0)
	if do(h, 5); h.Ask().Op != api.Sw {
		t.Fatalf("H6: Ask() = %+v", h.Ask())
	}
	if r, ok := h.Interrupt(); !ok || r != (api.Retired{PC: 20, Cause: api.Interrupt, Next: 20}) || !h.Halted() {
		t.Errorf("H5: Interrupt where mtvec is 0: %+v, %v, halted %v", r, ok, h.Halted())
	}
	if q := h.Ask(); q != (api.Request{}) {
		t.Errorf("H6: Ask of a halted hart: %+v", q)
	}
	if csr(t, h, api.Mstatus) != 8 || csr(t, h, api.Mepc) != 0 || csr(t, h, api.Mcause) != 0 || h.PC() != 20 {
		t.Error("H4: a trap while mtvec is 0 changes more than that the hart is halted")
	}
}
