package core_test

import (
	"math"
	"slices"
	"strings"
	"testing"

	"oocore/api"
	"oocore/core"
)

// opened lets interrupts in, which the handler, at 8, counts in x20.
const opened = "j body\nnop\naddi x20, x20, 1\nmret\nbody: li x1, 8\ncsrrw x0, 0x305, x1\nlui x2, 1\nsrli x2, x2, 1\ncsrrw x0, 0x304, x2\ncsrrsi x0, 0x300, 8\n"

const rounds = opened + "li x5, 40\na: addi x6, x6, 1\nmul x7, x6, x6\naddi x5, x5, -1\nbnez x5, a\ncsrrw x0, 0x305, x0\nebreak"

// interrupts are the cycles in which they come.
func interrupts(x api.Report) (list []int) {
	for _, e := range x.Events {
		if e.Kind == api.EvRetire && e.Seq == -1 {
			list = append(list, e.Cycle)
		}
	}
	return list
}

// An interrupt comes in the cycle in which the line is on, in place of what would have retired; nothing is lost by it.
func TestInterruptInEachCycle(t *testing.T) {
	for _, c := range []api.Config{least(), plainly(), greatest()} {
		none := ends(t, rounds, c)
		first := when(none, api.EvRetire, 36)[0] + 1 // behind csrrsi
		for at := first; at < first+60; at++ {
			x := ends(t, rounds, c, at, at+1)
			if got := interrupts(x); !slices.Equal(got, []int{at}) {
				t.Fatalf("C3: the line is on in cycle %d, interrupts come in %d", at, got)
			}
			reg(t, x, 6, 40)
			reg(t, x, 7, 1600)
			reg(t, x, 20, 1)
			for _, e := range x.Events {
				if e.Cycle == at && e.Kind == api.EvRetire && (e.Seq != -1 || e.PC != e.What.PC || e.What.Cause != api.Interrupt || e.What.Next != 8 || e.What.Word != 0) {
					t.Fatalf("C3: in cycle %d: %+v", at, e)
				}
			}
		}
	}
}

// In the cycle in which the line goes on an instruction would have retired: it is thrown away, and done again behind the handler.
func TestInterruptAheadOfRetirement(t *testing.T) {
	x := ends(t, opened+"nop\nnop\nli x9, 1\ncsrrw x0, 0x305, x0\nebreak", plainly())
	at := when(x, api.EvRetire, 48)[0]
	x = runs(t, opened+"nop\nnop\nli x9, 1\ncsrrw x0, 0x305, x0\nebreak", plainly(), at, at+1)
	if got := when(x, api.EvSquash, 48); len(got) == 0 || got[0] != at || interrupts(x)[0] != at {
		t.Errorf("C3: thrown away in %d, interrupted in %d, want %d", got, interrupts(x), at)
	}
	reg(t, x, 9, 1)
}

func TestLines(t *testing.T) {
	c := plainly()
	none := ends(t, rounds, c)
	n := when(none, api.EvRetire, 36)[0] + 10
	for _, w := range []struct {
		name  string
		lines []int
		want  []int
	}{
		{"never", nil, nil},
		{"twice in one cycle", []int{n, n}, nil},
		{"three times in one cycle", []int{n, n + 1, n, n}, []int{n}},
		{"in no order", []int{n + 31, n + 1, n + 30, n}, []int{n, n + 30}},
		{"negative", []int{-1, n + 1, math.MinInt, -n, n}, []int{n}},
		{"negative twice", []int{-3, -3, -2}, nil},
		{"never again", []int{math.MaxInt, api.MaxCycles, 1 << 40}, nil},
		{"while it may not", []int{0, 2, n, n + 1}, []int{n}},
	} {
		x := ends(t, rounds, c, w.lines...)
		if got := interrupts(x); !slices.Equal(got, w.want) {
			t.Errorf("C1: %s: interrupts come in %d, want %d", w.name, got, w.want)
		}
		reg(t, x, 20, uint32(len(w.want)))
	}
}

// The line stays on: an interrupt comes as soon as it may, and once more in the cycle behind the handler's mret.
func TestLineStaysOn(t *testing.T) {
	c := plainly()
	code := assemble(t, rounds)
	x, _ := core.Run(code, nil, c, []int{0}, 300)
	watch(t, "the line stays on", code, nil, c, []int{0}, 300, x)
	got, back := interrupts(x), when(x, api.EvRetire, 12)
	if len(got) < 10 || got[0] != when(x, api.EvRetire, 36)[0]+1 {
		t.Fatalf("C3: interrupts come in %d", got)
	}
	for k := range len(got) - 1 {
		if got[k+1] != back[k]+1 {
			t.Errorf("C3: interrupts come in %d, mret in %d", got, back)
		}
	}
}

// An interrupt while mtvec is 0 halts, as any trap does; what was on its way is thrown away, what has retired is written.
func TestInterruptHalts(t *testing.T) {
	text := "lui x2, 1\nsrli x2, x2, 1\ncsrrw x0, 0x304, x2\ncsrrsi x0, 0x300, 8\nlui x8, 16\nsw x8, (x8)\na: addi x6, x6, 1\nj a"
	c := plainly()
	c.BusCycles = 10
	x := runs(t, text, c, 12)
	if !x.Ended || !slices.Equal(interrupts(x), []int{12}) || x.Data[2] != 1 || x.Cycles < 13 {
		t.Errorf("C1: ended %v after %d cycles, interrupts %d", x.Ended, x.Cycles, interrupts(x))
	}
}

// Nothing is on its way, for a load waits for the place of a store that has retired: the interrupt comes at the load's place.
func TestInterruptOfAnEmptyWindow(t *testing.T) {
	c := plainly()
	c.Queue, c.BusCycles = 1, 10
	text := opened + "lui x8, 16\nsw x8, (x8)\nlw x3, (x8)\ncsrrw x0, 0x305, x0\nebreak"
	at := when(ends(t, text, c), api.EvRetire, 44)[0] + 3
	x := ends(t, text, c, at, at+1)
	if all := shown(x); !strings.HasPrefix(all[at], "Retire -1: 30, Enter ") || all[at-1] != "" {
		t.Errorf("C3: the cycles are %q", all[at-1:at+1])
	}
	reg(t, x, 3, 0x10000)
	reg(t, x, 20, 1)
}

// Stores that have retired stay, and an atomic operation is done once, whatever interrupts come.
func TestInterruptsOfMemory(t *testing.T) {
	text := opened + "lui x8, 16\nlui x9, 32\nli x5, 12\nli x10, 1\na: sw x5, 4(x8)\namoadd.w x3, x10, (x8)\nsb x5, (x9)\nlw x4, 4(x8)\nadd x11, x11, x4\naddi x5, x5, -1\nbnez x5, a\ncsrrw x0, 0x305, x0\nebreak"
	for at := range 60 {
		c := []api.Config{least(), plainly(), greatest()}[at%3]
		x := ends(t, text, c, 20+at, 21+at, 40+2*at, 42+2*at)
		reg(t, x, 11, 78)
		if x.Data[0] != 12 || len(x.Out) != 12 {
			t.Errorf("C3: the word is %d, out %q", x.Data[0], x.Out)
		}
	}
}
