package rules

import (
	"bytes"
	"errors"
	"math/rand"
	"slices"
	"testing"

	"oocore/alu"
	"oocore/api"
	"oocore/arch"
	"oocore/asm"
	"oocore/plain"
)

func TestAluOfAnyNumbers(t *testing.T) {
	for _, op := range extremes {
		for _, n := range extremes {
			for _, m := range extremes {
				a, b := uint32(n), uint32(m)
				alu.Exec(api.Op(op), a, b)
				alu.Taken(api.Op(op), a, b)
				alu.Widen(api.Op(op), a)
				alu.Swap(api.Op(op), a, b)
			}
		}
		if size := alu.Size(api.Op(op)); size != 0 {
			t.Errorf("P1: the number %d has the size %d", op, size)
		}
	}
	for op := api.Illegal; op <= api.Csrrci; op++ {
		for _, n := range extremes {
			for _, m := range extremes {
				alu.Exec(op, uint32(n), uint32(m))
				alu.Swap(op, uint32(n), uint32(m))
			}
		}
	}
}

func TestHartOfAnyNumbers(t *testing.T) {
	for _, data := range extremes {
		for _, number := range extremes {
			h, err := arch.NewHart([]uint32{0x00000073}, data, number)
			if told := plain.Told(err); (h == nil) == (err == nil) || err != nil && told != api.ErrImage && told != api.ErrRange {
				t.Fatalf("P1, P3: NewHart with %d, %d: %v, %v", data, number, h != nil, err)
			}
			if err != nil {
				continue
			}
			for _, n := range extremes {
				h.Reg(n)
				if v, ok := h.Csr(n); !ok && v != 0 {
					t.Errorf("P1: Csr(%d) = %x, false", n, v)
				}
				h.Do(uint32(n), n%2 == 0)
			}
		}
	}
}

// Words of any kind, a hart that is also driven past its machine, and what is loaded of any kind.
func TestMachineOfAnyWords(t *testing.T) {
	r := rand.New(rand.NewSource(7))
	for range 3000 {
		code := make([]uint32, 1+r.Intn(20))
		for k := range code {
			code[k] = r.Uint32()
			if r.Intn(3) > 0 {
				code[k] = code[k]&^0x7f | []uint32{0x37, 0x17, 0x6f, 0x67, 0x63, 0x03, 0x23, 0x13, 0x33, 0x2f, 0x0f, 0x73}[r.Intn(12)]
			}
		}
		m, err := arch.New(code, make([]byte, 16*r.Intn(3)))
		if err != nil {
			t.Fatalf("P1: New: %v", err)
		}
		for range 40 {
			m.Line(r.Intn(2) == 0)
			if got, ok := m.Step(); !ok && got != (api.Retired{}) {
				t.Fatalf("P1: Step() = %+v, false", got)
			}
			if r.Intn(4) == 0 {
				m.Hart().Do(r.Uint32(), r.Intn(2) == 0)
			}
			if got, ok := m.Hart().Interrupt(); !ok && got != (api.Retired{}) {
				t.Fatalf("P1: Interrupt() = %+v, false", got)
			}
		}
	}
}

func program(t *testing.T, text string) []uint32 {
	t.Helper()
	words, _, err := asm.Assemble(text)
	if err != nil {
		t.Fatal(err)
	}
	return words
}

const storing = "lui x8, 16\nli x1, 9\nsw x1, 4(x8)\nlui x9, 32\nsb x1, (x9)\nlw x2, (x8)\nebreak"

// Code and data that were handed in are neither written into nor kept.
func TestMachineKeepsNoList(t *testing.T) {
	code, data := program(t, storing), bytes.Repeat([]byte{3}, 16)
	codeBefore, dataBefore := slices.Clone(code), slices.Clone(data)
	m, err := arch.New(code, data)
	if err != nil {
		t.Fatal(err)
	}
	h, _ := arch.NewHart(code, 16, 0)
	for range 3 {
		m.Step()
	}
	if !slices.Equal(code, codeBefore) || !bytes.Equal(data, dataBefore) {
		t.Errorf("P2: code is %08x, data %x behind a store", code, data)
	}
	clear(code)
	clear(data)
	for {
		if _, ok := m.Step(); !ok {
			break
		}
	}
	if m.Hart().Reg(2) != 0x03030303 || m.Hart().PC() != 24 || m.Out() != "\t" {
		t.Errorf("P2: the machine has kept its lists: x2 is %x, at %x", m.Hart().Reg(2), m.Hart().PC())
	}
	if h.Do(0, false); h.Reg(8) != 0x10000 {
		t.Errorf("P2: the hart has kept its code: x8 is %x", h.Reg(8))
	}
}

func TestMachineDataIsFresh(t *testing.T) {
	m, err := arch.New(program(t, storing), make([]byte, 16))
	if err != nil {
		t.Fatal(err)
	}
	first := m.Data()
	for range 3 {
		m.Step()
	}
	second, third := m.Data(), m.Data()
	if first[4] != 0 || second[4] != 9 {
		t.Errorf("P2: data ahead of the store %x, behind it %x", first, second)
	}
	clear(second)
	if third[4] != 9 || m.Data()[4] != 9 {
		t.Errorf("P2: what came out is shared: %x, %x", third, m.Data())
	}
	_ = append(third[:0], bytes.Repeat([]byte{7}, cap(third))...)
	if m.Data()[0] != 0 {
		t.Errorf("P2: what came out is shared behind its end: %x", m.Data())
	}
}

// Two machines of the same lists have nothing in common.
func TestMachinesAreApart(t *testing.T) {
	code, data := program(t, storing), make([]byte, 16)
	a, _ := arch.New(code, data)
	b, _ := arch.New(code, data)
	for range 7 {
		a.Step()
	}
	a.Line(true)
	if b.Hart().PC() != 0 || b.Out() != "" || !bytes.Equal(b.Data(), data) || b.Hart().Halted() {
		t.Errorf("P2: at %x, out %q, data %x", b.Hart().PC(), b.Out(), b.Data())
	}
	for range 7 {
		b.Step()
	}
	if a.Out() != b.Out() || !bytes.Equal(a.Data(), b.Data()) || a.Hart().Reg(2) != b.Hart().Reg(2) {
		t.Error("P2: two machines of the same lists come to other ends")
	}
}

func TestImages(t *testing.T) {
	for _, c := range []struct {
		words, bytes int
		want         error
	}{{1, 0, nil}, {4096, 4096, nil}, {0, 0, api.ErrImage}, {4097, 0, api.ErrImage}, {1, 4112, api.ErrImage}, {1, 4095, api.ErrImage}, {1, 8, api.ErrImage}} {
		if _, err := arch.New(make([]uint32, c.words), make([]byte, c.bytes)); !errors.Is(err, c.want) {
			t.Errorf("P5: New of %d words, %d bytes: %v, want %v", c.words, c.bytes, err, c.want)
		}
	}
}
