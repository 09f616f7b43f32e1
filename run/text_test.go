package run_test

import (
	"encoding/hex"
	"fmt"
	"math/rand"
	"slices"
	"strings"
	"testing"

	"oocore/api"
	"oocore/run"
)

func TestExamplesOfText(t *testing.T) {
	tells(t, "li x1, 300\nlui x9, 32\nsb x1, (x9)\nlui x8, 16\nsw x1, 4(x8)\nebreak", "000102030405060708090a0b0c0d0e0f",
		"ended after 6 instructions", "x1 = 0000012c", "x8 = 00010000", "x9 = 00020000", "out = 2c", "10000 = 03020100", "10004 = 0000012c", "10008 = 0b0a0908", "1000c = 0f0e0d0c")
	tells(t, "li x1, 5\nli x2, 7\nmul x3, x1, x2\nebreak", "", "ended after 4 instructions", "x1 = 00000005", "x2 = 00000007", "x3 = 00000023")
}

// A jump to itself is cut off, whenever that is.
func TestRounds(t *testing.T) {
	for _, c := range makes(2, 12) {
		for _, cycles := range []int{0, 1, 2, 3, 4, 5, 10, 50, 999, 1000} {
			rounds := count(ran(t, "j 0", "", c, cycles), api.EvRetire)
			want := fmt.Sprintf("cut off after %d instructions\n", rounds)
			if got, err := run.Text("j 0", "", c, cycles); err != nil || got != want || cycles < 3 && rounds > 0 || cycles > 99 && rounds < cycles/6 {
				t.Errorf("R1: j 0 on %+v, %d cycles: %q, %v, want %q", c, cycles, got, err, want)
			}
		}
	}
	got, err := run.Text("j 0", "", least(), api.MaxCycles)
	if n := 0; err != nil || !strings.HasPrefix(got, "cut off after ") {
		t.Errorf("R1: j 0 with the most cycles: %q, %v", got, err)
	} else if fmt.Sscanf(got, "cut off after %d instructions\n", &n); n < api.MaxCycles/6 || n > api.MaxCycles {
		t.Errorf("R1: j 0 with the most cycles: %d rounds", n)
	}
}

// texts are loops, loads and stores, traps, control registers, the device's bytes, atomic operations; all end, with 64 bytes of data at least.
func texts() []string {
	return []string{
		"ebreak", "nop\necall", ".word 0", "nop", "lw x1, (x0)", "jal x1, 6", "lui x8, 16\nlw x1, 2(x8)", "lui x8, 16\nsh x8, 1(x8)", "lui x9, 32\nlw x1, (x9)", "sw x0, (x0)", "csrrs x1, 0x123, x0",
		"lui x8, 16\nli x1, 20\na: sw x1, 0(x8)\nlw x2, 0(x8)\nadd x3, x3, x2\naddi x1, x1, -1\nbnez x1, a\nebreak",
		"lui x8, 16\nli x5, 12\nli x1, 3\na: mul x6, x5, x1\nandi x6, x6, 60\nadd x6, x6, x8\nsw x5, (x6)\nlw x7, 0(x8)\nlhu x4, 12(x8)\nadd x3, x3, x7\nadd x3, x3, x4\naddi x5, x5, -1\nbnez x5, a\nsb x3, 63(x8)\nebreak",
		"call f\ncall f\nebreak\nf: addi x10, x10, 1\nmv x5, x1\ncall g\nmv x1, x5\nret\ng: addi x11, x11, 3\nret",
		"lui x8, 16\nlui x9, 32\nli x5, 60\na: lbu x1, (x8)\nsb x1, (x9)\nsh x5, 2(x9)\naddi x8, x8, 1\naddi x5, x5, -1\nbnez x5, a\nsw x5, (x9)\nebreak",
		"lui x8, 16\nlui x9, 32\nli x1, 65\nsb x1, (x9)\nli x2, 1\namoadd.w x3, x2, (x8)\nlr.w x4, (x8)\nsc.w x5, x1, (x8)\nsc.w x6, x1, (x8)\nlw x7, (x8)\nfence 255\nsb x7, 1(x9)\nebreak",
		// traps that go to a handler, which goes on behind them, and one that halts
		"li x1, 0x20\ncsrrw x0, 0x305, x1\nlw x2, 1(x0)\n.word 0\necall\ncsrrw x0, 0x305, x0\njal x1, 6\nnop\ncsrrs x3, 0x342, x0\nadd x4, x4, x3\ncsrrs x5, 0x341, x0\naddi x5, x5, 4\ncsrrw x0, 0x341, x5\nmret",
		// interrupts are let in, and none comes
		"li x1, 0x30\ncsrrw x0, 0x305, x1\nlui x2, 1\nsrli x2, x2, 1\ncsrrw x0, 0x304, x2\ncsrrsi x0, 0x300, 8\nli x3, 30\na: addi x3, x3, -1\nwfi\nbnez x3, a\ncsrrw x0, 0x305, x0\nebreak\naddi x31, x31, 1\nmret",
		"csrrwi x1, 0x340, 31\ncsrrs x2, 0x340, x1\ncsrrci x3, 0x340, 3\ncsrrc x4, 0x340, x2\ncsrrs x5, 0xc02, x0\nli x6, -1\ncsrrw x7, 0x300, x6\ncsrrw x8, 0x300, x0\ncsrrs x11, 0xf14, x0\ncsrrw x0, 0x341, x6\ncsrrs x12, 0x341, x0\nwfi\nebreak",
		// a store that halts has gone by, those ahead of it are written
		"lui x8, 16\nsw x8, (x8)\nsw x8, 16(x8)\nsw x8, 32(x8)\nsw x8, 48(x8)\nsw x8, 2(x8)",
	}
}

// anyData are the digits of so many bytes, some of them noughts.
func anyData(r *rand.Rand, bytes int) string {
	data := make([]byte, bytes)
	r.Read(data)
	for k := range data {
		if r.Intn(3) == 0 {
			clear(data[k&^3 : k&^3+4])
		}
	}
	digits := hex.EncodeToString(data)
	if r.Intn(2) == 0 {
		return strings.ToUpper(digits)
	}
	return digits
}

func TestTextsOnAllMakes(t *testing.T) {
	r := rand.New(rand.NewSource(3))
	for _, text := range texts() {
		digits := anyData(r, 64+16*r.Intn(3))
		first := ""
		for k, c := range makes(4, 25) {
			got := ends(t, text, digits, c)
			if k == 0 {
				first = got
			}
			if got != first {
				t.Errorf("R1: %q on %+v:\n%s, and on another core\n%s", text, c, got, first)
			}
			follows(t, text, digits, c, r.Intn(120))
		}
	}
}

// From no cycles on to more than are needed: it ends in its last one, and is cut off in any one ahead of it.
func TestEachCycle(t *testing.T) {
	for n, text := range texts() {
		digits := anyData(rand.New(rand.NewSource(int64(n))), 64)
		for _, c := range makes(int64(n), 2) {
			cycles := ran(t, text, digits, c, 100000).Cycles
			before := slices.Collect(func(yield func(int) bool) {
				for k := 0; k < cycles && yield(k); k += 1 + cycles/60 {
				}
			})
			for _, k := range append(before, cycles-2, cycles-1, cycles, cycles+1, api.MaxCycles) {
				if k < 0 {
					continue
				}
				how := "cut off after "
				if k >= cycles {
					how = "ended after "
				}
				if got := follows(t, text, digits, c, k); !strings.HasPrefix(got, how) {
					t.Errorf("R1: %q on %+v, which takes %d cycles, with %d: %s", text, c, cycles, k, got)
				}
			}
		}
	}
}

// In the middle of a run, what has retired is told of registers, and what is written of data and Out.
func TestCutOffInTheMiddle(t *testing.T) {
	text := "lui x8, 16\nlui x9, 32\nli x1, 7\nsw x1, (x8)\nsb x1, (x9)\nsw x1, 16(x8)\nebreak"
	for cycles, want := range map[int]string{
		0: "cut off after 0 instructions\n10004 = 000000aa\n",
		3: "cut off after 2 instructions\nx8 = 00010000\nx9 = 00020000\n10004 = 000000aa\n",
		5: "cut off after 5 instructions\nx1 = 00000007\nx8 = 00010000\nx9 = 00020000\n10004 = 000000aa\n",
	} {
		if got := follows(t, text, "00000000aa"+strings.Repeat("0", 54), plainly(), cycles); got != want {
			t.Errorf("R1: %d cycles: %q, want %q", cycles, got, want)
		}
	}
	all := "ended after 7 instructions\nx1 = 00000007\nx8 = 00010000\nx9 = 00020000\nout = 07\n10000 = 00000007\n10004 = 000000aa\n10010 = 00000007\n"
	seen := map[string]int{}
	for cycles := range 30 {
		got := follows(t, text, "00000000aa"+strings.Repeat("0", 54), plainly(), cycles)
		seen[got]++
		// It is halted, and its last store waits.
		if strings.HasPrefix(got, "cut off after 7 ") && strings.Contains(got, "10010") || cycles == 29 && got != all {
			t.Errorf("R1: %d cycles: %q", cycles, got)
		}
	}
	waits := strings.Replace(strings.Replace(all, "ended", "cut off", 1), "10010 = 00000007\n", "", 1)
	if seen[waits] == 0 || seen[all] < 5 {
		t.Errorf("R1: %v", seen)
	}
}
