package core_test

import (
	"testing"

	"oocore/api"
)

func TestWindowIsFull(t *testing.T) {
	c := plainly()
	c.Window = 2
	x := ends(t, "li x1, 8\ndiv x2, x1, x1\nli x3, 1\nli x4, 2\nebreak", c)
	shows(t, x,
		"Enter 0: 0, Enter 1: 4",
		"Issue 0",
		"Done 0, Retire 0, Issue 1, Enter 2: 8",
		"Issue 2",
		"Done 2",
		"Done 1, Retire 1, Retire 2, Enter 3: c, Enter 4: 10",
		"Issue 3",
		"Done 3, Retire 3, Issue 4, Done 4, Retire 4")
}

// A store that has retired has its place in the queue until it is written; what needs none may enter, but not ahead of a load that waits for one.
func TestQueueIsFull(t *testing.T) {
	c := plainly()
	c.Queue = 1
	x := ends(t, "lui x8, 16\nsw x8, (x8)\nnop\nlw x1, 16(x8)\nnop\nebreak", c)
	shows(t, x,
		"Enter 0: 0, Enter 1: 4",
		"Issue 0, Enter 2: 8",
		"Done 0, Retire 0, Issue 2, Issue 1",
		"Done 1, Done 2, Retire 1, Retire 2",
		"",
		"Drain",
		"Enter 3: c, Enter 4: 10",
		"Issue 4, Enter 5: 14, Enter 6: 18",
		"Done 4",
		"Issue 3, Done 3, Retire 3, Retire 4",
		"Issue 5, Done 5, Retire 5, Squash 6")
}

// Register 0 needs no name.
func TestNamesAreTaken(t *testing.T) {
	c := plainly()
	c.Registers = 34
	x := ends(t, "li x1, 1\nli x2, 2\nnop\nli x3, 3\nli x0, 4\nebreak", c)
	shows(t, x,
		"Enter 0: 0, Enter 1: 4",
		"Issue 0, Issue 1, Enter 2: 8",
		"Done 0, Done 1, Retire 0, Retire 1, Issue 2, Enter 3: c, Enter 4: 10",
		"Done 2, Retire 2, Issue 3, Issue 4, Enter 5: 14, Enter 6: 18",
		"Done 3, Done 4, Retire 3, Retire 4",
		"Issue 5, Done 5, Retire 5, Squash 6")
}

// What traps gives its name back, and its place in the queue: else soon none would enter.
func TestTrapsGiveBack(t *testing.T) {
	c := plainly()
	c.Registers, c.Queue, c.Window = 34, 1, 2
	body := ""
	for range 10 {
		body += "lw x2, 1(x0)\nsw x2, 1(x0)\njalr x3, 2(x0)\ncsrrs x4, 0x123, x0\namoadd.w x5, x5, (x0)\n"
	}
	x := ends(t, "j body\ncsrrs x7, 0x341, x0\naddi x7, x7, 4\ncsrrw x0, 0x341, x7\naddi x6, x6, 1\nmret\nbody: li x1, 4\ncsrrw x0, 0x305, x1\n"+body+"csrrw x0, 0x305, x0\nebreak", c)
	reg(t, x, 6, 50)
}

func TestUnits(t *testing.T) {
	c := plainly()
	c.Width, c.Units = 4, 1
	x := ends(t, "li x1, 1\nj 4\nli x3, 3\nmul x4, x0, x0\nmul x5, x0, x0\nbeq x0, x1, 4\nebreak", c)
	shows(t, x,
		"Enter 0: 0, Enter 1: 4, Enter 2: 8, Enter 3: c",
		"Issue 0, Issue 3, Enter 4: 10, Enter 5: 14, Enter 6: 18, Enter 7: 1c",
		"Done 0, Retire 0, Issue 1, Issue 4",
		"Done 1, Retire 1, Issue 2",
		"Done 2, Done 3, Retire 2, Retire 3, Issue 5",
		"Done 4, Done 5, Retire 4, Retire 5, Issue 6, Done 6, Retire 6, Squash 7")
}

func TestMulCycles(t *testing.T) {
	for n := 1; n <= 10; n++ {
		c := plainly()
		c.MulCycles = n
		x := ends(t, "mul x1, x0, x0\nadd x2, x1, x1\nebreak", c)
		for _, w := range []struct{ kind, pc, want int }{{api.EvIssue, 0, 1}, {api.EvDone, 0, 1 + n}, {api.EvRetire, 0, 1 + n}, {api.EvIssue, 4, 1 + n}, {api.EvRetire, 4, 2 + n}} {
			if got := when(x, w.kind, uint32(w.pc)); len(got) != 1 || got[0] != w.want {
				t.Errorf("C4: MulCycles %d: %s at %d in the cycles %d, want %d", n, kindName(w.kind), w.pc, got, w.want)
			}
		}
	}
}

// As many enter and retire in a cycle as Width says.
func TestWidth(t *testing.T) {
	text := ""
	for range 24 {
		text += "nop\n"
	}
	for n := 1; n <= 4; n++ {
		c := greatest()
		c.Width = n
		if x := ends(t, text+"ebreak", c); x.Cycles != 3+24/n {
			t.Errorf("C4: Width %d: %d cycles, want %d", n, x.Cycles, 3+24/n)
		}
	}
}

// Of products one begins in a cycle, the oldest, though several may; they go on side by side.
func TestOneProductACycle(t *testing.T) {
	c := greatest()
	x := ends(t, "mul x1, x0, x0\ndiv x2, x0, x0\nrem x3, x0, x0\nebreak", c)
	for k := range 3 {
		begun, done := when(x, api.EvIssue, uint32(4*k)), when(x, api.EvDone, uint32(4*k))
		if len(begun) != 1 || begun[0] != 1+k || done[0] != 11+k {
			t.Errorf("C4: the product at %d begins in %d and is done in %d", 4*k, begun, done)
		}
	}
}
