package arch_test

import (
	"bytes"
	"maps"
	"math/rand"
	"testing"

	"oocore/api"
	"oocore/arch"
	"oocore/isa"
)

// writer writes random programs in which most addresses are data or near them, and most targets are code.
type writer struct{ *rand.Rand }

func (w writer) one(of ...int) int { return of[w.Intn(len(of))] }

// register is seldom one of those that hold addresses.
func (w writer) register() int {
	if w.Intn(40) == 0 {
		return w.Intn(32)
	}
	return w.Intn(8)
}

func (w writer) imm(op api.Op) int {
	switch isa.ClassOf(op) {
	case api.Load, api.Store:
		return w.one(0, 0, 4, 4, 8, 12, 12, 1, 2, 3, 5, 6, 14, 15, 16, -1, -4, 2047, -2048)
	case api.Branch, api.Jump:
		return w.one(4, 8, 8, 12, 16, 20, -4, -8, -12, 0, 2, 6, -2)
	case api.Atomic:
		return w.Intn(4)
	case api.Muldiv:
		return 0
	case api.System:
		switch {
		case op == api.Fence:
			return w.Intn(256)
		case op <= api.Wfi:
			return 0
		}
		return w.one(api.Mstatus, api.Mstatus, api.Mie, api.Mtvec, api.Mscratch, api.Mepc, api.Mcause, api.Mtval, api.Instret, api.Mhartid, 0, 0x123, 0xfff)
	}
	if _, second := isa.Reads(op); second {
		return 0
	}
	return w.one(0, 1, 2, 31, 5, 17)
}

func (w writer) word() uint32 {
	if w.Intn(30) == 0 {
		return w.Uint32()
	}
	for {
		i := api.Instr{Op: api.Op(1 + w.Intn(67)), Rd: w.register(), Rs1: w.register(), Rs2: w.register()}
		if w.Intn(12) == 0 {
			i.Op = api.Op(w.one(int(api.LrW), int(api.ScW)))
		}
		i.Imm = w.imm(i.Op)
		switch isa.ClassOf(i.Op) {
		case api.Load, api.Store:
			i.Rs1 = w.one(8, 8, 8, 8, 9, i.Rs1)
		case api.Atomic:
			i.Rs1 = w.one(8, 8, 8, 10, 10, 9, i.Rs1)
		}
		first, second := isa.Reads(i.Op)
		if !first && i.Op < api.Csrrwi {
			i.Rs1 = 0
		}
		if !second {
			i.Rs2 = 0
		}
		if !isa.Writes(i.Op) {
			i.Rd = 0
		}
		if word, ok := isa.Encode(i); ok {
			return word
		}
	}
}

// program begins with addresses, some numbers, and where traps go, which may be nowhere; a trap's handler goes on behind the place of the trap, even behind that of an interrupt.
func (w writer) program(t *testing.T) []uint32 {
	handler := "j body\nhandler: csrrs x6, 0x341, x0\naddi x6, x6, 4\ncsrrw x0, 0x341, x6\nmret\nbody: nop\n"
	if w.Intn(4) > 0 {
		handler += "li x4, 4\ncsrrw x0, 0x305, x4\n"
	}
	words := assemble(t, handler+"lui x8, 16\nlui x9, 32\naddi x10, x8, 4\nli x1, -1\nlui x2, 0x80000\nli x3, 5\nli x7, 44\nlui x5, 1\nsrli x5, x5, 1\ncsrrw x0, 0x304, x5\ncsrrwi x0, 0x300, 8")
	for range 4 + w.Intn(40) {
		words = append(words, w.word())
	}
	back, _ := isa.Encode(api.Instr{Op: api.Jal, Imm: 4 * (5 - len(words))})
	return append(words, back)
}

func (m *model) clone() *model {
	other := *m
	other.mem, other.csr, other.reserved = maps.Clone(m.mem), maps.Clone(m.csr), maps.Clone(m.reserved)
	return &other
}

// wantAsk looks what the model would do with the line off.
func (m *model) wantAsk() api.Request {
	if m.halted || int(m.pc/4) >= len(m.code) {
		return api.Request{}
	}
	i, _ := isa.Decode(m.code[m.pc/4])
	ahead := m.clone()
	ahead.line = false
	if r, _ := ahead.step(); r.Cause != -1 {
		return api.Request{}
	}
	a, b := m.x[i.Rs1], m.x[i.Rs2]
	switch i.Op {
	case api.Lb, api.Lbu:
		return api.Request{Op: i.Op, Addr: a + uint32(i.Imm), Size: 1}
	case api.Lh, api.Lhu:
		return api.Request{Op: i.Op, Addr: a + uint32(i.Imm), Size: 2}
	case api.Lw:
		return api.Request{Op: i.Op, Addr: a + uint32(i.Imm), Size: 4}
	case api.Sb:
		return api.Request{Op: i.Op, Addr: a + uint32(i.Imm), Size: 1, Data: b % 0x100}
	case api.Sh:
		return api.Request{Op: i.Op, Addr: a + uint32(i.Imm), Size: 2, Data: b % 0x10000}
	case api.Sw:
		return api.Request{Op: i.Op, Addr: a + uint32(i.Imm), Size: 4, Data: b}
	}
	if i.Op >= api.LrW && i.Op <= api.AmoMaxu {
		return api.Request{Op: i.Op, Addr: a, Size: 4, Data: b}
	}
	return api.Request{}
}

// agree holds a machine against the model, and tells whether they are the same.
func agree(t *testing.T, m *arch.Machine, want *model) bool {
	t.Helper()
	h := m.Hart()
	if h.PC() != want.pc || h.Halted() != want.halted || m.Out() != want.out {
		t.Errorf("at %x, halted %v, out %q, want %x, %v, %q", h.PC(), h.Halted(), m.Out(), want.pc, want.halted, want.out)
		return false
	}
	for k, v := range want.x {
		if h.Reg(k) != v {
			t.Errorf("x%d is %x, want %x", k, h.Reg(k), v)
			return false
		}
	}
	for n, v := range want.csr {
		if got, ok := h.Csr(n); !ok || got != v {
			t.Errorf("the control register %x is %x, %v, want %x", n, got, ok, v)
			return false
		}
	}
	data := make([]byte, len(want.mem))
	for k := range data {
		data[k] = want.mem[0x10000+uint32(k)]
	}
	if !bytes.Equal(m.Data(), data) {
		t.Errorf("data are %x, want %x", m.Data(), data)
		return false
	}
	return true
}

// Random programs, held against the model after each step.
func TestRandomPrograms(t *testing.T) {
	for seed := range int64(1500) {
		w := writer{rand.New(rand.NewSource(seed))}
		code := w.program(t)
		data := make([]byte, w.one(0, 16, 16, 16, 32, 32))
		w.Read(data)
		m, err := arch.New(code, data)
		if err != nil {
			t.Fatalf("H7: New: %v", err)
		}
		want := newModel(code, data, 0)
		for n := range 150 {
			if w.Intn(20) == 0 || want.line && w.Intn(2) == 0 {
				want.line = !want.line
				m.Line(want.line)
			}
			if q := m.Hart().Ask(); q != want.wantAsk() {
				t.Fatalf("H6: seed %d, step %d: Ask() = %+v, want %+v", seed, n, q, want.wantAsk())
			}
			r, ok := m.Step()
			if wr, wok := want.step(); r != wr || ok != wok {
				t.Fatalf("H3, H4, H7: seed %d, step %d: %+v, %v, want %+v, %v", seed, n, r, ok, wr, wok)
			}
			if !agree(t, m, want) {
				t.Fatalf("H1 to H7: seed %d, step %d: %+v", seed, n, r)
			}
			if !ok {
				break
			}
		}
	}
}
