package system_test

import (
	"math"
	"slices"
	"testing"

	"oocore/api"
)

// opened lets interrupts in, which the handler, at 8, counts in x20.
const opened = "j body\nnop\naddi x20, x20, 1\nmret\nbody: li x1, 8\ncsrrw x0, 0x305, x1\nlui x2, 1\nsrli x2, x2, 1\ncsrrw x0, 0x304, x2\ncsrrsi x0, 0x300, 8\n"

const rounds = opened + "lui x8, 16\nli x5, 30\na: lw x6, (x8)\nsw x5, 4(x8)\nmul x7, x5, x5\naddi x5, x5, -1\nbnez x5, a\ncsrrw x0, 0x305, x0\nebreak"

// interrupts are the cycles in which they come to a core.
func interrupts(x api.Report, core int) (list []int) {
	for _, e := range x.Events {
		if e.Core == core && e.Kind == api.EvRetire && e.Seq == -1 {
			list = append(list, e.Cycle)
		}
	}
	return list
}

// An interrupt is that of the core whose line is on, in the cycle in which it is; the other core goes on.
func TestInterruptsOfOneAndBoth(t *testing.T) {
	for _, cs := range pairs() {
		none := ends(t, rounds, rounds, cs)
		from := max(when(none, 0, api.EvRetire, 36)[0], when(none, 1, api.EvRetire, 36)[0]) + 1 // behind csrrsi
		for at := from; at < from+24; at += 3 {
			for _, w := range []struct{ lines, want [2][]int }{
				{[2][]int{{at, at + 1}, nil}, [2][]int{{at}, nil}},
				{[2][]int{nil, {at + 1, at}}, [2][]int{nil, {at}}},
				{[2][]int{{at, at + 1}, {at, at + 1}}, [2][]int{{at}, {at}}},
				{[2][]int{{at, at + 1}, {at + 2, at + 3}}, [2][]int{{at}, {at + 2}}},
				{[2][]int{{at, at, -1, math.MinInt}, {at, at, at, at + 1, math.MaxInt}}, [2][]int{nil, {at}}},
			} {
				x := ends(t, rounds, rounds, cs, w.lines[0], w.lines[1])
				for core := range 2 {
					if got := interrupts(x, core); !slices.Equal(got, w.want[core]) {
						t.Fatalf("S1: %+v: core %d's line turns at %d, interrupts come in %d", cs, core, w.lines[core], got)
					}
					reg(t, x, core, 20, uint32(len(w.want[core])))
					reg(t, x, core, 7, 1)
				}
			}
		}
	}
}

// However often both are interrupted, each addition is done once.
func TestInterruptsOfAtomicOperations(t *testing.T) {
	text := opened + "lui x8, 16\nlui x9, 32\nli x5, 10\nli x10, 1\na: amoadd.w x3, x10, (x8)\nsb x5, (x9)\nsw x5, 4(x8)\naddi x5, x5, -1\nbnez x5, a\ncsrrw x0, 0x305, x0\nebreak"
	for n, cs := range pairs() {
		for k := range 10 {
			lines := [][]int{nil, nil}
			for at := 10 + k; at < 400; at += 20 + n {
				lines[0] = append(lines[0], at, at+1)
				lines[1] = append(lines[1], at+k, at+k+2)
			}
			x := ends(t, text, text, cs, lines...)
			if x.Data[0] != 20 || len(x.Out) != 20 || len(interrupts(x, 0)) == 0 || len(interrupts(x, 1)) == 0 {
				t.Errorf("S2: %+v: 20 additions come to %d, out %q", cs, x.Data[0], x.Out)
			}
		}
	}
}

// A core that an interrupt halts ends; the other one goes on, and its line does nothing to the first.
func TestInterruptHaltsOne(t *testing.T) {
	spin := "lui x2, 1\nsrli x2, x2, 1\ncsrrw x0, 0x304, x2\ncsrrsi x0, 0x300, 8\nlui x8, 16\nsw x8, (x8)\na: addi x6, x6, 1\nj a"
	for _, cs := range pairs() {
		x := ends(t, spin, spin, cs, []int{60}, []int{300})
		if !slices.Equal(interrupts(x, 0), []int{60}) || !slices.Equal(interrupts(x, 1), []int{300}) || x.Cycles != 301 || x.Regs[0][6] >= x.Regs[1][6] {
			t.Errorf("S1: %+v: interrupts in %d and %d, %d cycles", cs, interrupts(x, 0), interrupts(x, 1), x.Cycles)
		}
	}
}
