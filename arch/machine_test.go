package arch_test

import (
	"bytes"
	"testing"

	"oocore/api"
	"oocore/arch"
	"oocore/plain"
)

func TestNew(t *testing.T) {
	for _, c := range []struct {
		words, data int
		want        api.Errno
	}{{1, 0, api.OK}, {api.MaxCode, api.MaxData, api.OK}, {0, 0, api.ErrImage}, {api.MaxCode + 1, 16, api.ErrImage}, {1, 1, api.ErrImage}, {1, 24, api.ErrImage}, {1, api.MaxData + 16, api.ErrImage}} {
		m, err := arch.New(make([]uint32, c.words), make([]byte, c.data))
		if got := plain.Told(err); got != c.want || (m == nil) != (c.want != api.OK) {
			t.Errorf("H7: New of %d words, %d bytes: %v, %v, want %v", c.words, c.data, m != nil, err, c.want)
		}
	}
	m, err := arch.New(assemble(t, "csrrs x1, 0xf14, x0"), nil)
	if err != nil || len(m.Data()) != 0 || m.Out() != "" || m.Hart().PC() != 0 || csr(t, m.Hart(), api.Mhartid) != 0 {
		t.Errorf("H7: New without data: %v", err)
	}
}

// Bytes of a word are stored the low one first; what is not written stays.
func TestMemory(t *testing.T) {
	data := make([]byte, 32)
	for k := range data {
		data[k] = byte(0x80 + k)
	}
	m := machine(t, "lui x8, 16\nlw x1, 4(x8)\nlhu x2, 6(x8)\nlh x3, 6(x8)\nlb x4, 31(x8)\nlbu x5, 31(x8)\nlui x6, 0x12345\naddi x6, x6, 0x678\nsw x6, 8(x8)\nsh x6, 14(x8)\nsb x6, 31(x8)\nlw x7, 8(x8)\nebreak", data)
	finish(t, m)
	for k, want := range map[int]uint32{1: 0x87868584, 2: 0x8786, 3: 0xffff8786, 4: 0xffffff9f, 5: 0x9f, 7: 0x12345678} {
		if got := m.Hart().Reg(k); got != want {
			t.Errorf("H7: x%d is %x, want %x", k, got, want)
		}
	}
	copy(data[8:], []byte{0x78, 0x56, 0x34, 0x12})
	copy(data[14:], []byte{0x78, 0x56})
	data[31] = 0x78
	if !bytes.Equal(m.Data(), data) || m.Out() != "" {
		t.Errorf("H7: data are %x, want %x; out %q", m.Data(), data, m.Out())
	}
}

// Each store to the device puts one byte out, the low one, whatever its size and place.
func TestDevice(t *testing.T) {
	m := machine(t, "lui x9, 32\nli x1, 72\nsb x1, (x9)\nli x1, 0x769\nsh x1, 2(x9)\nlui x1, 0x12345\naddi x1, x1, 0x621\nsw x1, (x9)\nsb x0, 3(x9)\nli x1, 255\nsb x1, 1(x9)\nsh x1, (x9)\nlw x2, (x9)", make([]byte, 16))
	all := finish(t, m)
	if m.Out() != "Hi!\x00\xff\xff" {
		t.Errorf("H7: out is %q", m.Out())
	}
	if last := all[len(all)-1]; last.Cause != api.LoadFault || !bytes.Equal(m.Data(), make([]byte, 16)) {
		t.Errorf("H4, P5: a load of the device: %+v, data %x", last, m.Data())
	}
}

func TestAtomic(t *testing.T) {
	for _, c := range []struct {
		name         string
		old, b, want uint32
	}{
		{"amoswap.w", 5, 9, 9}, {"amoadd.w", 0xffffffff, 3, 2}, {"amoxor.w", 0xff, 0x0f, 0xf0}, {"amoand.w", 0xff, 0x1f0, 0xf0}, {"amoor.w", 0xff, 0x100, 0x1ff},
		{"amomin.w", 0xffffffff, 1, 0xffffffff}, {"amomin.w", 1, 0xffffffff, 0xffffffff}, {"amomax.w", 0xffffffff, 1, 1}, {"amomax.w", 1, 0xffffffff, 1},
		{"amominu.w", 0xffffffff, 1, 1}, {"amominu.w", 1, 0xffffffff, 1}, {"amomaxu.w", 0xffffffff, 1, 0xffffffff}, {"amomaxu.w", 1, 0xffffffff, 0xffffffff},
	} {
		data := make([]byte, 16)
		for k := range 4 {
			data[8+k], data[k] = byte(c.old>>(8*k)), byte(c.b>>(8*k))
		}
		m := machine(t, "lui x8, 16\nlw x1, (x8)\naddi x8, x8, 8\n"+c.name+" x2, x1, (x8)\nlw x3, (x8)\nebreak", data)
		finish(t, m)
		if m.Hart().Reg(2) != c.old || m.Hart().Reg(3) != c.want {
			t.Errorf("H7: %s of %x and %x: x2 is %x, the word %x, want %x", c.name, c.old, c.b, m.Hart().Reg(2), m.Hart().Reg(3), c.want)
		}
	}
}

// What sc.w tells (x3, and x4 of a second), and the two words at the end: x1 is 7, x8 the first word's address, x10 the second's.
func TestReservations(t *testing.T) {
	for _, c := range []struct {
		text       string
		x3, x4     uint32
		word, next byte
	}{
		{"sc.w x3, x1, (x8)", 1, 0, 0, 0},
		{"lr.w x2, (x8)\nsc.w x3, x1, (x8)", 0, 0, 7, 0},
		{"lr.w x2, (x8)\nsc.w x3, x1, (x10)", 1, 0, 0, 0},
		{"lr.w x2, (x8)\nsc.w x3, x1, (x10)\nsc.w x4, x1, (x8)", 1, 1, 0, 0},
		{"lr.w x2, (x8)\nsc.w x3, x1, (x8)\nsc.w x4, x5, (x8)", 0, 1, 7, 0},
		{"lr.w x2, (x8)\nlr.w x2, (x10)\nsc.w x3, x1, (x8)", 1, 0, 0, 0},
		{"lr.w x2, (x8)\nlr.w x2, (x10)\nsc.w x3, x1, (x10)", 0, 0, 0, 7},
		{"lr.w x2, (x8)\nlr.w x2, (x8)\nsc.w x3, x1, (x8)", 0, 0, 7, 0},
		{"lr.w x2, (x8)\nlw x2, (x10)\nsc.w x3, x1, (x8)", 0, 0, 7, 0},
		{"lr.w x2, (x8)\nsw x5, (x8)\nsc.w x3, x1, (x8)", 0, 0, 7, 0},
		{"lr.w x2, (x8)\nsb x5, (x9)\nsc.w x3, x1, (x8)", 0, 0, 7, 0},
		{"lr.w x2, (x8)\namoadd.w x2, x5, (x10)\nsc.w x3, x1, (x8)", 0, 0, 7, 5},
		{"lr.w x2, (x8)\namoadd.w x2, x5, (x8)\nsc.w x3, x1, (x8)", 0, 0, 7, 0},
		{"lr.w x0, (x8)\nsc.w x3, x1, (x8)\nlr.w x0, (x8)\nsc.w x4, x5, (x8)", 0, 0, 5, 0},
		{"lr.w x2, (x8)\nli x6, 56\ncsrrw x0, 0x305, x6\nlw x2, (x0)\nnop\nnop\nnop\nsc.w x3, x1, (x8)", 0, 0, 7, 0},
	} {
		m := machine(t, "lui x8, 16\naddi x10, x8, 4\nli x1, 7\nli x5, 5\nlui x9, 32\nli x3, 9\nli x4, 0\n"+c.text+"\ncsrrwi x0, 0x305, 0\nebreak", make([]byte, 16))
		finish(t, m)
		h, data := m.Hart(), m.Data()
		if h.Reg(3) != c.x3 || h.Reg(4) != c.x4 || data[0] != c.word || data[4] != c.next {
			t.Errorf("H7: %q: x3 %x, x4 %x, words %x, want %x, %x, %x %x", c.text, h.Reg(3), h.Reg(4), data[:8], c.x3, c.x4, c.word, c.next)
		}
	}
}

// A trap asks nothing of memory: a sc.w that traps leaves what is reserved.
func TestTrapKeepsReservation(t *testing.T) {
	m := machine(t, "lui x8, 16\nli x1, 7\nli x6, 20\ncsrrw x0, 0x305, x6\nlr.w x2, (x8)\nsc.w x3, x1, (x0)\nebreak", make([]byte, 16))
	for range 6 {
		m.Step()
	}
	if m.Hart().PC() != 20 || csr(t, m.Hart(), api.Mcause) != api.StoreFault {
		t.Fatalf("H4: at %x, mcause %x", m.Hart().PC(), csr(t, m.Hart(), api.Mcause))
	}
	m = machine(t, "lui x8, 16\nli x1, 7\nli x6, 24\ncsrrw x0, 0x305, x6\nlr.w x2, (x8)\nsc.w x3, x1, (x0)\nsc.w x4, x1, (x8)\ncsrrwi x0, 0x305, 0\nebreak", make([]byte, 16))
	if finish(t, m); m.Hart().Reg(4) != 0 || m.Data()[0] != 7 {
		t.Errorf("H4, H7: sc.w behind one that traps: x4 %x, data %x", m.Hart().Reg(4), m.Data())
	}
}

// The line is off at first; while it is on, an interrupt comes ahead of each instruction that may have one.
func TestLine(t *testing.T) {
	text := "li x4, 32\ncsrrw x0, 0x305, x4\nlui x5, 1\nsrli x5, x5, 1\ncsrrw x0, 0x304, x5\ncsrrwi x0, 0x300, 8\nli x6, 1\nebreak\naddi x7, x7, 1\nmret"
	m := machine(t, text, nil)
	for range 6 {
		m.Step()
	}
	if r, ok := m.Step(); !ok || r.PC != 24 || r.Cause != api.None {
		t.Errorf("H7: the line is not off at first: %+v, %v", r, ok)
	}
	m = machine(t, text, nil)
	m.Line(true)
	for n := range 6 {
		if r, ok := m.Step(); !ok || r.PC != uint32(4*n) || r.Cause != api.None {
			t.Errorf("H7: step %d, where no interrupt may be: %+v, %v", n, r, ok)
		}
	}
	for range 3 {
		if r, ok := m.Step(); !ok || r != (api.Retired{PC: 24, Cause: api.Interrupt, Next: 32}) {
			t.Errorf("H7: with the line on: %+v, %v", r, ok)
		}
		if r, ok := m.Step(); !ok || r.PC != 32 || r.Rd != 7 {
			t.Errorf("H7: within the handler: %+v, %v", r, ok)
		}
		m.Step()
	}
	m.Line(false)
	if r, ok := m.Step(); !ok || r.PC != 24 || r.Rd != 6 {
		t.Errorf("H7: with the line off again: %+v, %v", r, ok)
	}
}

// An interrupt asks nothing of memory: the store is done once, behind the handler.
func TestInterruptAheadOfStore(t *testing.T) {
	m := machine(t, "li x4, 40\ncsrrw x0, 0x305, x4\nlui x5, 1\nsrli x5, x5, 1\ncsrrw x0, 0x304, x5\nlui x9, 32\nli x1, 65\ncsrrwi x0, 0x300, 8\nsb x1, (x9)\nebreak\nmret", nil)
	for range 8 {
		m.Step()
	}
	m.Line(true)
	if r, ok := m.Step(); !ok || r.Cause != api.Interrupt || m.Out() != "" {
		t.Errorf("H7: %+v, %v, out %q", r, ok, m.Out())
	}
	m.Line(false)
	m.Step()
	if m.Step(); m.Out() != "A" {
		t.Errorf("H7: out is %q", m.Out())
	}
}

// At its end a machine stays as it is, whatever the line is.
func TestEnd(t *testing.T) {
	m := machine(t, "li x1, 5\nli x2, 7\nmul x3, x1, x2\nebreak", nil)
	all := finish(t, m)
	if len(all) != 4 || all[3] != (api.Retired{PC: 12, Word: 0x00100073, Cause: api.Breakpoint, Tval: 12, Next: 12}) {
		t.Errorf("H7: %+v", all)
	}
	for n := range 4 {
		m.Line(n%2 == 0)
		if r, ok := m.Step(); ok || r != (api.Retired{}) {
			t.Errorf("H7: Step at the end: %+v, %v", r, ok)
		}
	}
	h := m.Hart()
	if h.Reg(1) != 5 || h.Reg(2) != 7 || h.Reg(3) != 0x23 || h.PC() != 12 || !h.Halted() || csr(t, h, api.Instret) != 3 {
		t.Errorf("H7: x1 %x, x2 %x, x3 %x at %x", h.Reg(1), h.Reg(2), h.Reg(3), h.PC())
	}
}

// Hart is the machine's own: what is done with it is done with the machine.
func TestHartItself(t *testing.T) {
	m := machine(t, "li x1, 5\nli x2, 7\nebreak", nil)
	h := m.Hart()
	h.Do(0, false)
	if r, ok := m.Step(); !ok || r.PC != 4 || h.Reg(2) != 7 || h != m.Hart() {
		t.Errorf("H7: %+v, %v, x2 %x", r, ok, h.Reg(2))
	}
	if h.Do(0, false); !m.Hart().Halted() {
		t.Error("H7: the machine's hart is not halted")
	}
	if _, ok := m.Step(); ok {
		t.Error("H7: Step of a machine whose hart is halted")
	}
}

// A program with a loop and a call runs to its end.
func TestProgram(t *testing.T) {
	m := machine(t, `
	lui x8, 16
	lui x9, 32
	li x10, 0
	li x11, 5
loop:	jal x1, square
	slli x12, x10, 2
	add x12, x12, x8
	sw x13, (x12)
	addi x14, x13, 48
	sb x14, (x9)
	addi x10, x10, 1
	bne x10, x11, loop
	ecall
square:	mul x13, x10, x10
	jalr x0, (x1)`, make([]byte, 32))
	all := finish(t, m)
	want := []byte{0, 0, 0, 0, 1, 0, 0, 0, 4, 0, 0, 0, 9, 0, 0, 0, 16, 0, 0, 0}
	if len(all) != 4+5*10+1 || m.Out() != "0149@" || !bytes.Equal(m.Data()[:20], want) {
		t.Errorf("H7: %d steps, out %q, data %x", len(all), m.Out(), m.Data())
	}
}
