package arch_test

import (
	"testing"

	"oocore/api"
	"oocore/arch"
)

// ready are 7 instructions: as setup, then mtvec and MIE.
func ready(vector, status string) string {
	return "lui x8, 16\nlui x9, 32\nli x1, -7\nli x2, 3\nli x4, " + vector + "\ncsrrw x0, 0x305, x4\ncsrrwi x0, 0x300, " + status + "\n"
}

const readyWords, place = 7, 28

// trapping are instructions that trap behind ready, with 16 bytes of data. Rd, where there is one, is x3.
var trapping = []struct {
	text  string
	cause int
	tval  uint32
}{
	{"", api.FetchFault, place},
	{".word 0", api.IllegalInstr, 0}, {".word 0xffffffff", api.IllegalInstr, 0xffffffff}, {".word 0x02001013", api.IllegalInstr, 0x02001013},
	{"csrrw x3, 0x123, x1", api.IllegalInstr, 0x123091f3}, {"csrrs x3, 0xc02, x1", api.IllegalInstr, 0xc020a1f3}, {"csrrwi x3, 0xf14, 0", api.IllegalInstr, 0xf14051f3},
	{"ebreak", api.Breakpoint, place}, {"ecall", api.EnvCall, 0},
	{"lh x3, 1(x8)", api.LoadAligned, 0x10001}, {"lhu x3, 15(x8)", api.LoadAligned, 0x1000f}, {"lw x3, 2(x8)", api.LoadAligned, 0x10002}, {"lw x3, 3(x9)", api.LoadAligned, 0x20003},
	{"lw x3, 18(x8)", api.LoadAligned, 0x10012}, {"lw x3, -1(x0)", api.LoadAligned, 0xffffffff}, {"lr.w x3, (x2)", api.LoadAligned, 3},
	{"lb x3, 16(x8)", api.LoadFault, 0x10010}, {"lbu x3, -1(x8)", api.LoadFault, 0xffff}, {"lh x3, 16(x8)", api.LoadFault, 0x10010}, {"lhu x3, -2(x8)", api.LoadFault, 0xfffe}, {"lw x3, 16(x8)", api.LoadFault, 0x10010}, {"lw x3, -4(x8)", api.LoadFault, 0xfffc},
	{"lb x3, (x9)", api.LoadFault, 0x20000}, {"lw x3, (x9)", api.LoadFault, 0x20000}, {"lw x3, (x0)", api.LoadFault, 0}, {"lw x3, -4(x0)", api.LoadFault, 0xfffffffc}, {"lb x3, (x1)", api.LoadFault, 0xfffffff9}, {"lr.w x3, (x9)", api.LoadFault, 0x20000}, {"lr.w x3, (x0)", api.LoadFault, 0},
	{"sh x1, 1(x8)", api.StoreAligned, 0x10001}, {"sw x1, 1(x8)", api.StoreAligned, 0x10001}, {"sw x1, 2(x9)", api.StoreAligned, 0x20002}, {"sh x1, 3(x9)", api.StoreAligned, 0x20003}, {"sw x1, 22(x8)", api.StoreAligned, 0x10016},
	{"sc.w x3, x1, (x2)", api.StoreAligned, 3}, {"amoadd.w x3, x1, (x2)", api.StoreAligned, 3}, {"amomaxu.w x3, x1, (x1)", api.StoreAligned, 0xfffffff9},
	{"sb x1, 16(x8)", api.StoreFault, 0x10010}, {"sb x1, -1(x8)", api.StoreFault, 0xffff}, {"sh x1, 16(x8)", api.StoreFault, 0x10010}, {"sw x1, 16(x8)", api.StoreFault, 0x10010}, {"sb x1, 4(x9)", api.StoreFault, 0x20004}, {"sb x1, -1(x9)", api.StoreFault, 0x1ffff}, {"sh x1, 4(x9)", api.StoreFault, 0x20004}, {"sw x1, 4(x9)", api.StoreFault, 0x20004}, {"sw x1, -4(x9)", api.StoreFault, 0x1fffc}, {"sb x1, (x0)", api.StoreFault, 0},
	{"sc.w x3, x1, (x9)", api.StoreFault, 0x20000}, {"sc.w x3, x1, (x0)", api.StoreFault, 0}, {"amoswap.w x3, x1, (x9)", api.StoreFault, 0x20000}, {"amoand.w x3, x1, (x0)", api.StoreFault, 0},
	{"jal x3, 2", api.FetchAligned, place + 2}, {"jal x3, -30", api.FetchAligned, 0xfffffffe}, {"jalr x3, (x2)", api.FetchAligned, 2}, {"jalr x3, 2(x8)", api.FetchAligned, 0x10002}, {"jalr x3, 3(x8)", api.FetchAligned, 0x10002},
	{"beq x1, x1, 6", api.FetchAligned, place + 6}, {"bne x1, x2, -2", api.FetchAligned, place - 2}, {"bgeu x1, x2, 4094", api.FetchAligned, place + 4094},
}

// trapped brings a hart to the instruction that traps, and answers it with the word there; 0, if there is none.
func trapped(t *testing.T, vector, status, text string) (*arch.Hart, uint32) {
	t.Helper()
	code := append(assemble(t, ready(vector, status)), assemble(t, text)...)
	h, err := arch.NewHart(code, 16, 1)
	if err != nil {
		t.Fatalf("H1: NewHart: %v", err)
	}
	do(h, readyWords)
	if len(code) == readyWords {
		return h, 0
	}
	return h, code[readyWords]
}

// Where mtvec is 0, a trap halts, and changes nothing else.
func TestTrapsHalt(t *testing.T) {
	for _, c := range trapping {
		h, word := trapped(t, "3", "8", c.text)
		if got, want := h.Do(77, true), (api.Retired{PC: place, Word: word, Cause: c.cause, Tval: c.tval, Next: place}); got != want {
			t.Errorf("H4: %q: %+v, want %+v", c.text, got, want)
		}
		if !h.Halted() || h.PC() != place || h.Reg(3) != 0 || h.Ask() != (api.Request{}) {
			t.Errorf("H4: %q: halted %v, at %x, x3 is %x, it asks %+v", c.text, h.Halted(), h.PC(), h.Reg(3), h.Ask())
		}
		for n, want := range map[int]uint32{api.Mstatus: 8, api.Mtvec: 0, api.Mepc: 0, api.Mcause: 0, api.Mtval: 0, api.Instret: readyWords} {
			if got := csr(t, h, n); got != want {
				t.Errorf("H4: behind %q, which halts, the control register %x is %x, want %x", c.text, n, got, want)
			}
		}
	}
}

// Where mtvec is not 0, a trap goes there, and nothing but control registers changes.
func TestTrapsGo(t *testing.T) {
	for _, c := range trapping {
		for status, after := range map[string]uint32{"0": 0, "8": 0x80} {
			h, word := trapped(t, "67", status, c.text)
			if got, want := h.Do(77, true), (api.Retired{PC: place, Word: word, Cause: c.cause, Tval: c.tval, Next: 64}); got != want {
				t.Errorf("H4: %q: %+v, want %+v", c.text, got, want)
			}
			if h.Halted() || h.PC() != 64 {
				t.Errorf("H4: %q: halted %v, at %x", c.text, h.Halted(), h.PC())
			}
			for n, want := range map[int]uint32{api.Mstatus: after, api.Mtvec: 64, api.Mepc: place, api.Mcause: uint32(c.cause), api.Mtval: c.tval, api.Instret: readyWords, api.Mscratch: 0} {
				if got := csr(t, h, n); got != want {
					t.Errorf("H4: behind %q the control register %x is %x, want %x", c.text, n, got, want)
				}
			}
			for k, want := range map[int]uint32{1: 0xfffffff9, 2: 3, 3: 0, 4: 67, 8: 0x10000, 9: 0x20000} {
				if h.Reg(k) != want {
					t.Errorf("H4: behind %q x%d is %x, want %x", c.text, k, h.Reg(k), want)
				}
			}
		}
	}
}

// A trap that goes to its own place does not halt.
func TestTrapToItself(t *testing.T) {
	h, word := trapped(t, "28", "0", "ecall")
	for range 5 {
		if got, want := h.Do(0, false), (api.Retired{PC: place, Word: word, Cause: api.EnvCall, Next: place}); got != want || h.Halted() {
			t.Errorf("H4: %+v, halted %v, want %+v", got, h.Halted(), want)
		}
	}
}

// Without data no address is one; with all that there may be, the last word is.
func TestDataEnds(t *testing.T) {
	for _, c := range []struct {
		data, cause int
		text        string
	}{
		{0, api.LoadFault, "lb x3, (x8)"}, {0, api.StoreFault, "sb x3, (x8)"}, {0, api.StoreFault, "amoadd.w x3, x1, (x8)"}, {0, api.None, "sb x3, (x9)"},
		{16, api.None, "lw x3, 12(x8)"}, {32, api.None, "lw x3, 28(x8)"}, {32, api.LoadFault, "lw x3, 32(x8)"}, {32, api.StoreFault, "sb x3, 32(x8)"}, {32, api.None, "sb x3, 31(x8)"},
		{api.MaxData, api.None, "lw x3, -4(x10)"}, {api.MaxData, api.LoadFault, "lbu x3, (x10)"}, {api.MaxData, api.None, "sh x3, -2(x10)"}, {api.MaxData, api.StoreFault, "sh x3, (x10)"},
	} {
		h := hart(t, "lui x8, 16\nlui x9, 32\nlui x10, 17\n"+c.text, c.data, 0)
		do(h, 3)
		if asks := h.Ask().Op != api.Illegal; asks != (c.cause == api.None) {
			t.Errorf("H6: %s with %d bytes of data: Ask() = %+v", c.text, c.data, h.Ask())
		}
		if r := h.Do(0, false); r.Cause != c.cause {
			t.Errorf("H4: %s with %d bytes of data: %+v", c.text, c.data, r)
		}
	}
}

// MIE and MPIE of all kinds, through a trap and through mret.
func TestStatus(t *testing.T) {
	for _, c := range []struct {
		status             string
		trapped, left, end uint32
	}{{"0", 0, 0x80, 0x80}, {"0x8", 0x80, 0x88, 0x80}, {"0x80", 0, 0x80, 0x88}, {"0x88", 0x80, 0x88, 0x88}} {
		h := hart(t, "li x4, 28\ncsrrw x0, 0x305, x4\nli x5, "+c.status+"\ncsrrw x0, 0x300, x5\necall\nnop\nnop\nmret", 0, 0)
		do(h, 5)
		if got := csr(t, h, api.Mstatus); got != c.trapped || h.PC() != 28 {
			t.Errorf("H4: mstatus is %x behind a trap with %s, want %x", got, c.status, c.trapped)
		}
		r := h.Do(0, false)
		if got := csr(t, h, api.Mstatus); got != c.left || r != (api.Retired{PC: 28, Word: 0x30200073, Cause: api.None, Next: 16}) || h.PC() != 16 {
			t.Errorf("H4: mstatus is %x behind mret with %s, want %x; %+v", got, c.status, c.left, r)
		}
		h = hart(t, "li x4, 24\ncsrrw x0, 0x341, x4\nli x5, "+c.status+"\ncsrrw x0, 0x300, x5\nmret", 0, 0)
		do(h, 5)
		if got := csr(t, h, api.Mstatus); got != c.end || h.PC() != 24 || csr(t, h, api.Mepc) != 24 {
			t.Errorf("H4: mstatus is %x behind mret with %s, want %x; at %x", got, c.status, c.end, h.PC())
		}
	}
}

const enable = "li x4, 64\ncsrrw x0, 0x305, x4\nlui x5, 1\nsrli x5, x5, 1\n"

func TestInterrupt(t *testing.T) {
	for _, c := range []struct {
		text string
		n    int
		may  bool
	}{
		{"nop", 4, false},
		{"csrrw x0, 0x304, x5", 5, false},
		{"csrrwi x0, 0x300, 8", 5, false},
		{"csrrw x0, 0x304, x5\ncsrrwi x0, 0x300, 23", 6, false},
		{"csrrwi x0, 0x304, 31\ncsrrwi x0, 0x300, 8", 6, false},
		{"csrrw x0, 0x304, x5\ncsrrwi x0, 0x300, 8", 6, true},
		{"csrrw x0, 0x304, x5\ncsrrwi x0, 0x300, 8\ncsrrci x0, 0x300, 8", 7, false},
		{"csrrw x0, 0x304, x5\ncsrrwi x0, 0x300, 8\ncsrrc x0, 0x304, x5", 7, false},
	} {
		h := hart(t, enable+c.text, 0, 0)
		do(h, c.n)
		at, before := h.PC(), csr(t, h, api.Mstatus)
		want, wantStatus, wantPlace := api.Retired{}, before, at
		if c.may {
			want, wantStatus, wantPlace = api.Retired{PC: at, Cause: api.Interrupt, Next: 64}, 0x80, 64
		}
		if r, ok := h.Interrupt(); ok != c.may || r != want {
			t.Errorf("H5: behind %q: %+v, %v, want %+v, %v", c.text, r, ok, want, c.may)
		}
		if h.PC() != wantPlace || csr(t, h, api.Mstatus) != wantStatus || csr(t, h, api.Instret) != uint32(c.n) || h.Halted() {
			t.Errorf("H5: behind %q: at %x, mstatus %x, instret %d", c.text, h.PC(), csr(t, h, api.Mstatus), csr(t, h, api.Instret))
		}
		if c.may && (csr(t, h, api.Mepc) != at || csr(t, h, api.Mcause) != 0x8000000b || csr(t, h, api.Mtval) != 0) {
			t.Errorf("H5: mepc %x, mcause %x, mtval %x", csr(t, h, api.Mepc), csr(t, h, api.Mcause), csr(t, h, api.Mtval))
		}
		if r, ok := h.Interrupt(); ok || r != (api.Retired{}) {
			t.Errorf("H5: behind %q, once more: %+v, %v", c.text, r, ok)
		}
	}
}

// An interrupt leaves the tval of an earlier trap behind, and the instruction is done when the handler goes back to it.
func TestInterruptGoesBack(t *testing.T) {
	h := hart(t, "li x4, 32\ncsrrw x0, 0x305, x4\nlui x5, 1\nsrli x5, x5, 1\ncsrrw x0, 0x304, x5\ncsrrw x0, 0x343, x5\ncsrrwi x0, 0x300, 8\nli x6, 9\nmret", 0, 0)
	do(h, 7)
	if _, ok := h.Interrupt(); !ok || csr(t, h, api.Mtval) != 0 {
		t.Errorf("H5: an interrupt %v, mtval %x", ok, csr(t, h, api.Mtval))
	}
	if do(h, 1); h.PC() != 28 || csr(t, h, api.Mstatus) != 0x88 || h.Reg(6) != 0 {
		t.Errorf("H5: at %x, mstatus %x, x6 %x", h.PC(), csr(t, h, api.Mstatus), h.Reg(6))
	}
	if do(h, 1); h.Reg(6) != 9 {
		t.Errorf("H5: x6 is %x behind the instruction that was not done", h.Reg(6))
	}
}
