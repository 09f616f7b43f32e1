package arch_test

import (
	"math"
	"testing"

	"oocore/api"
	"oocore/arch"
	"oocore/plain"
)

func TestNewHart(t *testing.T) {
	for _, c := range []struct {
		words, data, number int
		want                api.Errno
	}{
		{1, 0, 0, api.OK}, {1, 0, 1, api.OK}, {api.MaxCode, api.MaxData, 0, api.OK}, {2, 16, 1, api.OK},
		{0, 0, 0, api.ErrImage}, {api.MaxCode + 1, 0, 0, api.ErrImage}, {1, api.MaxData + 16, 0, api.ErrImage}, {1, api.MaxData + 1, 0, api.ErrImage},
		{1, 1, 0, api.ErrImage}, {1, 8, 0, api.ErrImage}, {1, 15, 0, api.ErrImage}, {1, 17, 0, api.ErrImage}, {1, -1, 0, api.ErrImage}, {1, -16, 0, api.ErrImage},
		{1, math.MinInt, 0, api.ErrImage}, {1, math.MaxInt, 0, api.ErrImage}, {1, 1 << 32, 0, api.ErrImage}, {1, 1<<32 + 16, 0, api.ErrImage},
		{1, 0, 2, api.ErrRange}, {1, 0, -1, api.ErrRange}, {1, 16, math.MinInt, api.ErrRange}, {1, 16, math.MaxInt, api.ErrRange}, {1, 16, 1 << 32, api.ErrRange}, {1, 16, 1<<32 + 1, api.ErrRange},
		{0, 0, 2, api.ErrImage}, {1, 8, -1, api.ErrImage}, {api.MaxCode + 1, 16, 9, api.ErrImage},
	} {
		h, err := arch.NewHart(make([]uint32, c.words), c.data, c.number)
		if got := plain.Told(err); got != c.want || (h == nil) != (c.want != api.OK) {
			t.Errorf("H1: NewHart of %d words, %d, %d: %v, %v, want %v", c.words, c.data, c.number, h != nil, err, c.want)
		}
	}
	if h, err := arch.NewHart(nil, 0, 0); h != nil || plain.Told(err) != api.ErrImage {
		t.Errorf("H1: NewHart of no code: %v, %v", h != nil, err)
	}
}

// known are the numbers of the control registers.
var known = []int{0x300, 0x304, 0x305, 0x340, 0x341, 0x342, 0x343, 0xc02, 0xf14}

func TestHartAtFirst(t *testing.T) {
	for number := range 2 {
		h := hart(t, "nop", 0, number)
		if h.PC() != 0 || h.Halted() {
			t.Errorf("H1: a new hart is at %x, halted %v", h.PC(), h.Halted())
		}
		for k := range 32 {
			if h.Reg(k) != 0 {
				t.Errorf("H1: x%d is %x at first", k, h.Reg(k))
			}
		}
		for _, n := range known {
			want := uint32(0)
			if n == api.Mhartid {
				want = uint32(number)
			}
			if got := csr(t, h, n); got != want {
				t.Errorf("H1, H2: the control register %x is %x at first, want %x", n, got, want)
			}
		}
	}
}

func TestReg(t *testing.T) {
	h := hart(t, "li x1, 7\nli x31, 9", 0, 0)
	do(h, 2)
	for _, c := range []struct {
		n    int
		want uint32
	}{{1, 7}, {31, 9}, {0, 0}, {2, 0}, {-1, 0}, {32, 0}, {33, 0}, {63, 0}, {math.MinInt, 0}, {math.MaxInt, 0}, {1 << 32, 0}, {1<<32 + 1, 0}} {
		if got := h.Reg(c.n); got != c.want {
			t.Errorf("H1: Reg(%d) = %x, want %x", c.n, got, c.want)
		}
	}
}

// Whatever writes register 0 tells no register, and leaves it 0.
func TestRegisterNought(t *testing.T) {
	h := hart(t, "lui x8, 16\naddi x0, x0, 5\nmul x0, x8, x8\nlui x0, 5\nauipc x0, 5\njal x0, 4\njalr x0, 28(x0)\nlw x0, (x8)\nlr.w x0, (x8)\nsc.w x0, x8, (x8)\namoadd.w x0, x8, (x8)\ncsrrs x0, 0x340, x8\ncsrrc x0, 0x340, x8\nadd x1, x0, x0", 16, 0)
	h.Do(0, false)
	for n := range 13 {
		r := h.Do(0xabcd, false)
		if r.Rd != 0 && n < 12 || r.Value != 0 || r.Cause != api.None || h.Reg(0) != 0 {
			t.Errorf("H1, H3: instruction %d: %+v, x0 is %x", n, r, h.Reg(0))
		}
	}
	if h.Reg(1) != 0 || csr(t, h, api.Mscratch) != 0 || csr(t, h, api.Instret) != 14 {
		t.Errorf("H1: x1 is %x, mscratch %x, instret %d", h.Reg(1), csr(t, h, api.Mscratch), csr(t, h, api.Instret))
	}
}

func TestCsrNumbers(t *testing.T) {
	h := hart(t, "nop", 0, 1)
	is := map[int]bool{}
	for _, n := range known {
		is[n] = true
	}
	for n := -5000; n < 10000; n++ {
		if v, ok := h.Csr(n); ok != is[n] || !ok && v != 0 {
			t.Errorf("H2: Csr(%x) = %x, %v", n, v, ok)
		}
	}
	for _, n := range []int{math.MinInt, math.MaxInt, 1<<32 + 0x300, -1<<32 + 0x300, 0x1300} {
		if v, ok := h.Csr(n); ok || v != 0 {
			t.Errorf("H2: Csr(%x) = %x, %v", n, v, ok)
		}
	}
}

// Which bits can be written, by all ways of writing.
func TestCsrBits(t *testing.T) {
	for _, c := range []struct {
		n    string
		mask uint32
	}{{"0x300", 0x88}, {"0x304", 0x800}, {"0x305", 0xfffffffc}, {"0x340", 0xffffffff}, {"0x341", 0xfffffffc}, {"0x342", 0xffffffff}, {"0x343", 0xffffffff}} {
		h := hart(t, "li x1, -1\ncsrrw x2, "+c.n+", x1\ncsrrc x3, "+c.n+", x1\ncsrrs x4, "+c.n+", x1\ncsrrci x5, "+c.n+", 31\ncsrrsi x6, "+c.n+", 31\ncsrrwi x7, "+c.n+", 31\ncsrrs x8, "+c.n+", x0", 0, 0)
		h.Do(0, false)
		for k, want := range []uint32{0, c.mask, 0, c.mask, c.mask &^ 31, c.mask, c.mask & 31} {
			if r := h.Do(0, false); r.Rd != k+2 || r.Value != want || r.Cause != api.None || h.Reg(k+2) != want {
				t.Errorf("H2, H3: of %s: %+v, want x%d = %x", c.n, r, k+2, want)
			}
		}
	}
}

// A single bit is set and removed, and the others stay; Rd and Rs1 may be one register.
func TestCsrOperations(t *testing.T) {
	h := hart(t, "li x1, 0xf0\nli x2, 0x3c\ncsrrw x0, 0x340, x1\ncsrrs x3, 0x340, x2\ncsrrc x4, 0x340, x1\ncsrrw x2, 0x340, x2\ncsrrwi x5, 0x340, 0\ncsrrs x6, 0x340, x0\ncsrrsi x6, 0x340, 17\ncsrrci x7, 0x340, 1\ncsrrs x9, 0x340, x0", 0, 0)
	do(h, 11)
	for k, want := range map[int]uint32{3: 0xf0, 4: 0xfc, 2: 0x0c, 5: 0x3c, 6: 0, 7: 17, 9: 16} {
		if h.Reg(k) != want {
			t.Errorf("H3: x%d is %x, want %x", k, h.Reg(k), want)
		}
	}
}

// The two that can only be read, read by csrrs and csrrc whose field Rs1 is 0; what would write them traps, though Rs1's value be 0.
func TestCsrReadOnly(t *testing.T) {
	h := hart(t, "nop\ncsrrs x1, 0xc02, x0\ncsrrc x2, 0xc02, x0\ncsrrsi x3, 0xc02, 0\ncsrrci x4, 0xf14, 0\ncsrrs x5, 0xf14, x0", 0, 1)
	do(h, 6)
	for k, want := range map[int]uint32{1: 1, 2: 2, 3: 3, 4: 1, 5: 1} {
		if h.Reg(k) != want {
			t.Errorf("H2: x%d is %x, want %x", k, h.Reg(k), want)
		}
	}
	for _, text := range []string{"csrrw x1, 0xc02, x0", "csrrwi x1, 0xc02, 0", "csrrs x1, 0xc02, x9", "csrrc x1, 0xc02, x9", "csrrsi x1, 0xc02, 1", "csrrci x1, 0xf14, 1", "csrrw x0, 0xf14, x0", "csrrs x0, 0xf14, x1",
		"csrrw x1, 0x301, x0", "csrrs x1, 0, x0", "csrrs x1, 0xfff, x0", "csrrsi x1, 0xc00, 0", "csrrci x1, 0x344, 0", "csrrc x1, 0xf11, x0", "csrrs x1, 0xb02, x0"} {
		h := hart(t, text, 0, 0)
		word := assemble(t, text)[0]
		if r := h.Do(0, false); r != (api.Retired{Word: word, Cause: api.IllegalInstr, Tval: word}) || !h.Halted() || h.Reg(1) != 0 {
			t.Errorf("H4: %s: %+v", text, r)
		}
	}
}

// mret counts; traps, and Ask, do not.
func TestInstret(t *testing.T) {
	h := hart(t, "li x1, 12\ncsrrw x0, 0x305, x1\necall\nnop\nmret", 0, 0)
	do(h, 3)
	if got := csr(t, h, api.Instret); got != 2 {
		t.Errorf("H2: instret is %d behind a trap, want 2", got)
	}
	do(h, 1)
	h.Ask()
	if got := csr(t, h, api.Instret); got != 3 || h.PC() != 16 {
		t.Errorf("H2: instret is %d at %x, want 3", got, h.PC())
	}
	do(h, 1)
	if got := csr(t, h, api.Instret); got != 4 {
		t.Errorf("H2: instret is %d behind mret, want 4", got)
	}
}
