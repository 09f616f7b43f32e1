package core_test

import (
	"bytes"
	"fmt"
	"math/rand"
	"testing"

	"oocore/api"
	"oocore/arch"
	"oocore/core"
)

// programs are of all classes: loops, calls, loads and stores that cross, traps; all end.
func programs() []string {
	return []string{
		"li x1, 5\nli x2, 7\nmul x3, x1, x2\nebreak",
		"lui x8, 16\nli x1, 20\na: sw x1, 0(x8)\nlw x2, 0(x8)\nadd x3, x3, x2\naddi x1, x1, -1\nbnez x1, a\nebreak",
		"lui x8, 16\nli x5, 12\nli x1, 3\na: mul x6, x5, x1\nandi x6, x6, 60\nadd x6, x6, x8\nsw x5, (x6)\nlw x7, 0(x8)\nlhu x4, 12(x8)\nadd x3, x3, x7\nadd x3, x3, x4\naddi x5, x5, -1\nbnez x5, a\nsb x3, 63(x8)\nebreak",
		"call f\ncall f\nebreak\nf: addi x10, x10, 1\nmv x5, x1\ncall g\nmv x1, x5\nret\ng: addi x11, x11, 3\nret",
		"lui x8, 16\nlui x9, 32\nli x1, 65\nsb x1, (x9)\nli x2, 1\namoadd.w x3, x2, (x8)\nlr.w x4, (x8)\nsc.w x5, x1, (x8)\nsc.w x6, x1, (x8)\nlw x7, (x8)\nfence 255\nsb x7, 1(x9)\nebreak",
		"li x1, 0x20\ncsrrw x0, 0x305, x1\nlw x2, 1(x0)\n.word 0\necall\ncsrrw x0, 0x305, x0\njal x1, 6\nnop\ncsrrs x3, 0x342, x0\nadd x4, x4, x3\ncsrrs x5, 0x341, x0\naddi x5, x5, 4\ncsrrw x0, 0x341, x5\nmret",
		"li x1, 9\nli x2, 0\na: div x3, x1, x2\nrem x4, x3, x1\nblt x4, x1, b\naddi x5, x5, 1\nb: addi x2, x2, 1\nblt x2, x1, a\nlw x6, 4(x0)",
		// bytes and halves that cross words
		"lui x8, 16\nli x1, 0x12345678\nli x5, 16\na: sb x5, (x8)\nsh x1, 2(x8)\nlw x2, (x8)\nlb x3, 1(x8)\nlhu x4, 2(x8)\nadd x6, x6, x2\nadd x6, x6, x3\nxor x6, x6, x4\nsw x6, 4(x8)\naddi x8, x8, 4\naddi x5, x5, -1\nbnez x5, a\nebreak",
		// a sum by a function that calls itself, with a stack in data
		"lui x2, 17\nli x10, 9\ncall f\nebreak\nf: beqz x10, e\naddi x2, x2, -8\nsw x1, (x2)\nsw x10, 4(x2)\naddi x10, x10, -1\ncall f\nlw x5, 4(x2)\nlw x1, (x2)\naddi x2, x2, 8\nadd x10, x10, x5\nret\ne: ret",
		// a table of places to go to
		"auipc x5, 0\nli x6, 12\na: andi x7, x6, 3\nslli x7, x7, 3\nadd x7, x7, x5\njalr x9, 32(x7)\nnop\nnop\naddi x3, x3, 1\nj b\naddi x3, x3, 16\nj b\naddi x3, x3, 256\nj b\nslli x3, x3, 1\nj b\nb: addi x6, x6, -1\nbnez x6, a\nebreak",
		// each control register
		"csrrwi x1, 0x340, 31\ncsrrs x2, 0x340, x1\ncsrrci x3, 0x340, 3\ncsrrc x4, 0x340, x2\ncsrrs x5, 0xc02, x0\nli x6, -1\ncsrrw x7, 0x300, x6\ncsrrw x8, 0x300, x0\ncsrrw x9, 0x304, x6\ncsrrw x10, 0x304, x0\ncsrrs x11, 0xf14, x0\ncsrrw x0, 0x341, x6\ncsrrs x12, 0x341, x0\nwfi\nebreak",
	}
}

// follows holds what retires against arch alone, without what the watcher knows.
func follows(t *testing.T, text string, data []byte, c api.Config) {
	t.Helper()
	code := assemble(t, text)
	m, err := arch.New(code, data)
	if err != nil {
		t.Fatal(err)
	}
	x, err := core.Run(code, data, c, nil, 50000)
	if err != nil || !x.Ended {
		t.Fatalf("C1: %q on %+v: ended %v, %v", text, c, x.Ended, err)
	}
	for _, e := range x.Events {
		if e.Kind == api.EvRetire {
			if want, ok := m.Step(); !ok || e.What != want || e.PC != want.PC {
				t.Fatalf("C3: %q on %+v: %+v, want %+v", text, c, e, want)
			}
		}
	}
	if !m.Hart().Halted() || !bytes.Equal(x.Data, m.Data()) || x.Out != m.Out() {
		t.Fatalf("C2, C3: %q on %+v: data %x, out %q, want %x, %q", text, c, x.Data, x.Out, m.Data(), m.Out())
	}
	for i := range 32 {
		reg(t, x, i, m.Hart().Reg(i))
	}
	watch(t, text, code, data, c, nil, 50000, x)
}

func TestProgramsOnAllMakes(t *testing.T) {
	r := rand.New(rand.NewSource(8))
	for _, text := range programs() {
		data := make([]byte, api.MaxData)
		for _, c := range []api.Config{least(), plainly(), greatest()} {
			follows(t, text, data, c)
		}
		for range 40 {
			follows(t, text, data[:4096-64*r.Intn(2)], anyMake(r))
		}
	}
}

// Each number of a configuration at its least and at its greatest, the others being as in the examples, and as great as may be.
func TestEachNumberAtItsEnds(t *testing.T) {
	for _, b := range bounds() {
		for _, n := range []int{b.least, b.most} {
			for _, c := range []api.Config{plainly(), greatest(), least()} {
				if b.set(&c, n); c.Guess.History > c.Guess.Bits {
					c.Guess.History = c.Guess.Bits
				}
				for _, text := range programs() {
					follows(t, text, make([]byte, api.MaxData), c)
				}
			}
		}
	}
}

// However a core is made, it retires the same.
func TestMakesDoNotMatter(t *testing.T) {
	r := rand.New(rand.NewSource(9))
	for seed := range int64(40) {
		code := assemble(t, writer{rand.New(rand.NewSource(seed))}.program())
		var first string
		for k := range 4 {
			x, _ := core.Run(code, make([]byte, 128), anyMake(r), nil, 3000)
			told, n := "", 0
			for _, e := range x.Events {
				if e.Kind == api.EvRetire && n < 60 {
					told += fmt.Sprintln(e.What)
					n++
				}
			}
			if k == 0 {
				first = told
			} else if told != first {
				t.Fatalf("C3: seed %d: another make retires\n%s\nand not\n%s", seed, told, first)
			}
		}
	}
}
