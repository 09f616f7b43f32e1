package system_test

import (
	"fmt"
	"math/rand"
	"testing"

	"oocore/api"
)

// A load goes ahead of a long quotient, and has its bytes; the other core takes its line and writes: the load is thrown away, begins again, and retires what was written.
func TestLineTakenFromALoad(t *testing.T) {
	early := "lui x8, 16\nlw x9, (x8)\nli x1, 1\n"
	for range 12 {
		early += "div x1, x1, x1\n"
	}
	early += "add x2, x1, x8\nlw x2, 31(x2)\nlw x3, (x8)\nebreak" // the word that the other core writes last, ahead of the one that it writes first
	at := uint32(4 * (len(assemble(t, early)) - 2))
	write := "lui x8, 16\nli x4, 5\n" + pause(6) + "sw x4, (x8)\nsw x4, 32(x8)\nebreak"
	for _, width := range []int{1, 2, 4} {
		c := greatest()
		c.BusCycles, c.Width = 1, width
		for core := range 2 {
			texts := []string{write, write}
			texts[core] = early
			x := ends(t, texts[0], texts[1], []api.Config{c, c})
			begun, thrown, written := when(x, core, api.EvIssue, at), when(x, core, api.EvSquash, at), when(x, 1-core, api.EvDrain, 0)
			if len(begun) < 2 || len(thrown) < 1 || begun[0] >= written[0] || thrown[0] > written[0] || begun[len(begun)-1] <= thrown[0] {
				t.Errorf("C4 0: core %d, %d wide: the load begins in %d, is thrown away in %d, the word is written in %d", core, width, begun, thrown, written)
			}
			reg(t, x, core, 2, 5)
			reg(t, x, core, 3, 5)
		}
	}
}

// A line that is only read by the other core stays: the load is not thrown away.
func TestLineSharedWithALoad(t *testing.T) {
	early := "lui x8, 16\nlw x9, (x8)\nli x1, 1\n"
	for range 12 {
		early += "div x1, x1, x1\n"
	}
	early += "lw x3, (x8)\nebreak"
	at := uint32(4 * (len(assemble(t, early)) - 2))
	c := greatest()
	c.BusCycles = 1
	x := ends(t, early, "lui x8, 16\n"+pause(6)+"lw x4, 4(x8)\nebreak", []api.Config{c, c})
	if begun, thrown := when(x, 0, api.EvIssue, at), when(x, 0, api.EvSquash, at); len(begun) != 1 || len(thrown) != 0 {
		t.Errorf("C4 0: the load begins in %d, is thrown away in %d", begun, thrown)
	}
}

// A load has its bytes of its own core's store, which is written, and whose line the other core takes ahead of the load's turn: it begins again.
func TestBytesOfAStoreThatIsTaken(t *testing.T) {
	text := "lui x8, 16\nli x1, 3\nli x5, 1\nsw x1, (x8)\n"
	for range 12 {
		text += "div x5, x5, x5\n"
	}
	text += "lw x3, (x8)\nebreak"
	at := uint32(4 * (len(assemble(t, text)) - 2))
	c := greatest()
	c.BusCycles = 1
	x := ends(t, text, "lui x8, 16\nli x1, 4\n"+pause(5)+"sb x1, 1(x8)\nebreak", []api.Config{c, c})
	if thrown := when(x, 0, api.EvSquash, at); len(thrown) != 1 {
		t.Errorf("C4 0: the load is thrown away in %d", thrown)
	}
	reg(t, x, 0, 3, 0x403)
}

// As long as a store waits in the buffer, its core reads its bytes, and the other core the old ones.
func TestOwnStoresAtOnce(t *testing.T) {
	for _, cs := range pairs() {
		x := ends(t, "lui x8, 16\nli x1, 7\nsw x1, (x8)\nlw x2, (x8)\nlw x3, 32(x8)\nebreak", "lui x8, 16\nli x1, 8\nsw x1, 32(x8)\nlw x2, 32(x8)\nlw x3, (x8)\nebreak", cs)
		reg(t, x, 0, 2, 7)
		reg(t, x, 1, 2, 8)
		if cs[0].Queue > 2 && cs[1].Queue > 2 {
			reg(t, x, 0, 3, 0)
			reg(t, x, 1, 3, 0)
		}
	}
}

// litmus is two programs, and what must not come of them: registers 5 and 6 of core 0, then of core 1.
type litmus struct {
	name    string
	a, b    string
	forbids func(r [4]uint32, data []byte) bool
}

func litmuses() []litmus {
	return []litmus{
		{"loads ahead of stores", "lw x5, 32(x8)\nsw x1, (x8)", "lw x5, (x8)\nsw x1, 32(x8)", func(r [4]uint32, d []byte) bool { return r[0] == 1 && r[2] == 1 }},
		{"a word behind a flag", "sw x1, (x8)\nsw x1, 32(x8)", "lw x5, 32(x8)\nlw x6, (x8)", func(r [4]uint32, d []byte) bool { return r[2] == 1 && r[3] == 0 }},
		{"a word and a flag in one line", "sw x1, (x8)\nsw x1, 4(x8)", "lw x5, 4(x8)\nlw x6, (x8)", func(r [4]uint32, d []byte) bool { return r[2] == 1 && r[3] == 0 }},
		{"stores across", "sw x1, (x8)\nsw x2, 32(x8)", "sw x1, 32(x8)\nsw x2, (x8)", func(r [4]uint32, d []byte) bool { return d[0] == 1 && d[32] == 1 }},
		{"one word read twice", "sw x1, (x8)\nsw x2, (x8)", "lw x5, (x8)\nlw x6, (x8)", func(r [4]uint32, d []byte) bool { return r[2] > r[3] }},
		{"a word and one of its bytes", "sw x1, (x8)\nsw x2, (x8)", "lw x5, (x8)\nlb x6, (x8)", func(r [4]uint32, d []byte) bool { return r[2] > r[3] }},
		{"a store behind a load of it", "sw x2, (x8)\nsw x1, 32(x8)", "lw x5, 32(x8)\nsw x1, (x8)", func(r [4]uint32, d []byte) bool { return r[2] == 1 && d[0] == 2 }},
		{"atomic operations in place of fences", "amoswap.w x0, x1, (x8)\nlw x5, 32(x8)", "amoswap.w x0, x1, (x9)\nlw x5, (x8)", func(r [4]uint32, d []byte) bool { return r[0] == 0 && r[2] == 0 }},
		{"an atomic operation between", "sw x1, (x8)\namoadd.w x0, x0, (x10)\nlw x5, 32(x8)", "sw x1, 32(x8)\namoadd.w x0, x0, (x11)\nlw x5, (x8)", func(r [4]uint32, d []byte) bool { return r[0] == 0 && r[2] == 0 }},
		{"own stores, and fences", "sw x1, (x8)\nlw x6, (x8)\nfence 255\nlw x5, 32(x8)", "sw x1, 32(x8)\nlw x6, 32(x8)\nfence 255\nlw x5, (x8)", func(r [4]uint32, d []byte) bool { return r[0] == 0 && r[2] == 0 || r[1] == 0 || r[3] == 0 }},
		{"a store against a load behind a fence", "sw x1, (x8)\nsw x1, 32(x8)", "sw x2, 32(x8)\nfence 255\nlw x5, (x8)", func(r [4]uint32, d []byte) bool { return d[32] == 2 && r[2] == 0 }},
	}
}

// Orders of memory that TSO does not have, with pauses of all lengths, and lines that are near at first, or not.
func TestOrders(t *testing.T) {
	r := rand.New(rand.NewSource(9))
	begin := func() string {
		s := "lui x8, 16\naddi x9, x8, 32\naddi x10, x8, 64\naddi x11, x8, 80\nli x1, 1\nli x2, 2\n"
		for _, at := range []int{0, 32, 64} {
			if r.Intn(2) == 0 {
				s += fmt.Sprintf("lw x7, %d(x8)\n", at)
			}
		}
		return s + pause(r.Intn(8))
	}
	for _, l := range litmuses() {
		for range 80 {
			cs := anyPair(r)
			a, b := begin()+l.a+"\nebreak", begin()+l.b+"\nebreak"
			if r.Intn(2) == 0 {
				x := ends(t, a, b, cs)
				if l.forbids([4]uint32{x.Regs[0][5], x.Regs[0][6], x.Regs[1][5], x.Regs[1][6]}, x.Data) {
					t.Fatalf("S2: %s: %q and %q on %+v: %x", l.name, a, b, cs, x.Regs)
				}
				continue
			}
			x := ends(t, b, a, cs)
			if l.forbids([4]uint32{x.Regs[1][5], x.Regs[1][6], x.Regs[0][5], x.Regs[0][6]}, x.Data) {
				t.Fatalf("S2: %s: %q and %q on %+v: %x", l.name, b, a, cs, x.Regs)
			}
		}
	}
}

// A word that one core counts up never falls for the other.
func TestNeverFalls(t *testing.T) {
	r := rand.New(rand.NewSource(10))
	up := "lui x8, 16\nli x1, 12\na: addi x2, x2, 1\nsw x2, (x8)\naddi x1, x1, -1\nbnez x1, a\nebreak"
	look := "lui x8, 16\nli x1, 12\na: lw x3, (x8)\nlw x4, (x8)\naddi x1, x1, -1\nbnez x1, a\nebreak"
	for range 60 {
		cs := anyPair(r)
		last := uint32(0)
		for _, e := range ends(t, up, look, cs).Events {
			if e.Core == 1 && e.Kind == api.EvRetire && (e.What.Rd == 3 || e.What.Rd == 4) {
				if e.What.Value < last {
					t.Fatalf("S2: %+v: a word falls from %d to %d", cs, last, e.What.Value)
				}
				last = e.What.Value
			}
		}
	}
}

// Both cores at one line, in turns: each waits until the word has its parity.
func TestTurns(t *testing.T) {
	r := rand.New(rand.NewSource(11))
	turn := func(parity int) string {
		return fmt.Sprintf("lui x8, 16\nli x5, 10\na: lw x1, (x8)\nandi x2, x1, 1\naddi x2, x2, -%d\nbnez x2, a\nlw x3, 4(x8)\nadd x3, x3, x1\nsw x3, 4(x8)\naddi x1, x1, 1\nsw x1, (x8)\naddi x5, x5, -1\nbnez x5, a\nebreak", parity)
	}
	makes := pairs()
	for range 40 {
		makes = append(makes, anyPair(r))
	}
	for _, cs := range makes {
		if x := ends(t, turn(0), turn(1), cs); x.Data[0] != 20 || x.Data[4] != 190 {
			t.Errorf("S2: %+v: 20 turns come to %d and %d", cs, x.Data[0], x.Data[4])
		}
	}
}

// programs are of all classes; all end, whatever the other core does: that which has a stack has one of its own.
func programs() []string {
	return []string{
		"li x1, 5\nli x2, 7\nmul x3, x1, x2\nebreak",
		"lui x8, 16\nli x1, 20\na: sw x1, 0(x8)\nlw x2, 0(x8)\nadd x3, x3, x2\naddi x1, x1, -1\nbnez x1, a\nebreak",
		"lui x8, 16\nli x5, 12\nli x1, 3\na: mul x6, x5, x1\nandi x6, x6, 60\nadd x6, x6, x8\nsw x5, (x6)\nlw x7, 0(x8)\nlhu x4, 12(x8)\nadd x3, x3, x7\nadd x3, x3, x4\naddi x5, x5, -1\nbnez x5, a\nsb x3, 63(x8)\nebreak",
		"call f\ncall f\nebreak\nf: addi x10, x10, 1\nmv x5, x1\ncall g\nmv x1, x5\nret\ng: addi x11, x11, 3\nret",
		"lui x8, 16\nlui x9, 32\nli x1, 65\nsb x1, (x9)\nli x2, 1\namoadd.w x3, x2, (x8)\nlr.w x4, (x8)\nsc.w x5, x1, (x8)\nsc.w x6, x1, (x8)\nlw x7, (x8)\nfence 255\nsb x7, 1(x9)\nebreak",
		"li x1, 0x20\ncsrrw x0, 0x305, x1\nlw x2, 1(x0)\n.word 0\necall\ncsrrw x0, 0x305, x0\njal x1, 6\nnop\ncsrrs x3, 0x342, x0\nadd x4, x4, x3\ncsrrs x5, 0x341, x0\naddi x5, x5, 4\ncsrrw x0, 0x341, x5\nmret",
		"lui x8, 16\nli x1, 0x12345678\nli x5, 16\na: sb x5, (x8)\nsh x1, 2(x8)\nlw x2, (x8)\nlb x3, 1(x8)\nlhu x4, 2(x8)\nadd x6, x6, x2\nadd x6, x6, x3\nxor x6, x6, x4\nsw x6, 4(x8)\naddi x8, x8, 4\naddi x5, x5, -1\nbnez x5, a\nebreak",
		"csrrs x3, 0xf14, x0\nli x4, 80\nmul x3, x3, x4\nlui x2, 16\naddi x2, x2, 160\nadd x2, x2, x3\nli x10, 9\ncall f\nebreak\nf: beqz x10, e\naddi x2, x2, -8\nsw x1, (x2)\nsw x10, 4(x2)\naddi x10, x10, -1\ncall f\nlw x5, 4(x2)\nlw x1, (x2)\naddi x2, x2, 8\nadd x10, x10, x5\nret\ne: ret",
		"csrrwi x1, 0x340, 31\ncsrrs x2, 0x340, x1\ncsrrci x3, 0x340, 3\ncsrrc x4, 0x340, x2\ncsrrs x5, 0xc02, x0\nli x6, -1\ncsrrw x7, 0x300, x6\ncsrrw x8, 0x300, x0\ncsrrw x9, 0x304, x6\ncsrrw x10, 0x304, x0\ncsrrs x11, 0xf14, x0\ncsrrw x0, 0x341, x6\ncsrrs x12, 0x341, x0\nwfi\nebreak",
	}
}

// Programs of all classes, each against each, on cores of the same make and of others.
func TestPrograms(t *testing.T) {
	r := rand.New(rand.NewSource(12))
	for _, a := range programs() {
		for _, b := range programs() {
			for _, cs := range append(pairs(), anyPair(r), anyPair(r)) {
				ends(t, a, b, cs)
			}
		}
	}
}
