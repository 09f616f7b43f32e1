package core_test

import (
	"slices"
	"testing"

	"oocore/api"
	"oocore/core"
)

// Behind a trap all others are thrown away, though they were computed, and no more retire in its cycle.
func TestTrap(t *testing.T) {
	x := ends(t, "li x1, 20\ncsrrw x0, 0x305, x1\nlw x2, 1(x0)\nli x2, 1\nli x2, 2\ncsrrs x3, 0x342, x0\ncsrrw x0, 0x305, x0\nebreak", plainly())
	shows(t, x,
		"Enter 0: 0, Enter 1: 4",
		"Issue 0, Enter 2: 8, Enter 3: c",
		"Done 0, Retire 0, Issue 1, Done 1, Retire 1, Issue 3, Issue 2, Enter 4: 10, Enter 5: 14",
		"Done 2, Done 3, Retire 2, Squash 5, Squash 4, Squash 3, Enter 6: 14, Enter 7: 18",
		"Issue 6, Done 6, Retire 6, Issue 7, Done 7, Retire 7, Enter 8: 1c, Enter 9: 20",
		"Issue 8, Done 8, Retire 8, Squash 9")
	reg(t, x, 2, 0)
	reg(t, x, 3, api.LoadAligned)
	if got := causes(x); !slices.Equal(got, []int{api.LoadAligned, api.Breakpoint}) {
		t.Errorf("C3: traps %x", got)
	}
}

// What would trap, or halt, is never seen if it was taken in by a wrong guess.
func TestTrapBehindWrongGuess(t *testing.T) {
	x := ends(t, "div x1, x1, x0\nbeq x0, x0, 12\n.word 0\necall\nebreak", plainly())
	shows(t, x,
		"Enter 0: 0, Enter 1: 4",
		"Issue 1, Issue 0, Enter 2: 8, Enter 3: c",
		"Done 1, Squash 3, Squash 2, Enter 4: 10, Enter 5: 14",
		"",
		"Done 0, Retire 0, Retire 1",
		"Issue 4, Done 4, Retire 4, Squash 5")
	for _, bad := range []string{"lw x2, 1(x0)", "sw x2, 1(x0)", "jal x2, 2", "lr.w x2, (x0)", "csrrw x2, 0xc02, x2", "sw x2, (x9)", "csrrw x0, 0x305, x8"} {
		for _, c := range []api.Config{least(), plainly(), greatest()} {
			x := ends(t, "lui x8, 16\nlui x9, 32\ndiv x1, x1, x0\ndiv x1, x1, x1\nbnez x1, a\n"+bad+"\nnop\nnop\na: ebreak", c)
			if got := causes(x); !slices.Equal(got, []int{api.Breakpoint}) || x.Out != "" {
				t.Errorf("C3: %s: traps %x, out %q", bad, got, x.Out)
			}
			reg(t, x, 2, 0)
		}
	}
}

// mret throws away what is behind it, but if it goes to the next word.
func TestMret(t *testing.T) {
	x := ends(t, "li x1, 20\ncsrrw x0, 0x341, x1\nmret\nli x2, 1\nli x2, 2\nebreak", plainly())
	shows(t, x,
		"Enter 0: 0, Enter 1: 4",
		"Issue 0, Enter 2: 8, Enter 3: c",
		"Done 0, Retire 0, Issue 1, Done 1, Retire 1, Issue 3, Enter 4: 10, Enter 5: 14",
		"Done 3, Issue 2, Done 2, Retire 2, Squash 5, Squash 4, Squash 3, Enter 6: 14, Enter 7: 18",
		"Issue 6, Done 6, Retire 6, Squash 7")
	reg(t, x, 2, 0)
	x = ends(t, "li x1, 12\ncsrrw x0, 0x341, x1\nmret\nli x2, 1\nebreak", plainly())
	shows(t, x,
		"Enter 0: 0, Enter 1: 4",
		"Issue 0, Enter 2: 8, Enter 3: c",
		"Done 0, Retire 0, Issue 1, Done 1, Retire 1, Issue 3, Enter 4: 10, Enter 5: 14",
		"Done 3, Issue 2, Done 2, Retire 2, Retire 3",
		"Issue 4, Done 4, Retire 4, Squash 5")
	reg(t, x, 2, 1)
}

// A trap that goes to its own place is no end: it comes again and again.
func TestTrapToItsOwnPlace(t *testing.T) {
	code := assemble(t, "li x1, 8\ncsrrw x0, 0x305, x1\necall")
	x, err := core.Run(code, nil, plainly(), nil, 50)
	if err != nil || x.Ended || x.Cycles != 50 || len(causes(x)) < 20 {
		t.Errorf("C1: ended %v after %d cycles, %d traps, %v", x.Ended, x.Cycles, len(causes(x)), err)
	}
	watch(t, "a trap to its own place", code, nil, plainly(), nil, 50, x)
	for _, e := range x.Events {
		if e.Kind == api.EvRetire && e.What.Cause != api.None && (e.What.PC != 8 || e.What.Next != 8) {
			t.Errorf("C3: %+v", e)
		}
	}
}

// Where there is no code one enters, and none behind it; it traps.
func TestNoCode(t *testing.T) {
	x := ends(t, "li x1, 1", plainly())
	shows(t, x,
		"Enter 0: 0, Enter 1: 4",
		"Issue 0",
		"Done 0, Retire 0, Issue 1, Done 1, Retire 1")
	if last := x.Events[len(x.Events)-1].What; last != (api.Retired{PC: 4, Cause: api.FetchFault, Tval: 4, Next: 4}) {
		t.Errorf("C3: the trap is %+v", last)
	}
	// Its handler stands where there is no code, either: again and again.
	code := assemble(t, "lui x1, 0xfffff\ncsrrw x0, 0x305, x1")
	x, _ = core.Run(code, nil, plainly(), nil, 30)
	watch(t, "no code", code, nil, plainly(), nil, 30, x)
	if got := causes(x); len(got) < 20 || x.Ended {
		t.Errorf("C3: %d traps, ended %v", len(got), x.Ended)
	}
	// The last place of all: the one behind it is 0, which is not taken in.
	code = assemble(t, "jalr x1, -4(x0)")
	x, _ = core.Run(code, nil, plainly(), nil, 30)
	watch(t, "the last place", code, nil, plainly(), nil, 30, x)
	if got := when(x, api.EvRetire, 0xfffffffc); len(got) != 1 || !x.Ended {
		t.Errorf("C3: what stands at the last place retires in %d", got)
	}
}

// Each trap, with what is told of it, and a handler that goes on behind it.
func TestAllTraps(t *testing.T) {
	for _, c := range []struct {
		text string
		what api.Retired
	}{
		{"jal x2, 6", api.Retired{Cause: api.FetchAligned, Tval: 0x26}},
		{".word 0", api.Retired{Cause: api.IllegalInstr}},
		{"csrrw x2, 0xf14, x2", api.Retired{Cause: api.IllegalInstr, Tval: 0xf1411173}},
		{"ebreak", api.Retired{Cause: api.Breakpoint, Tval: 0x20}},
		{"ecall", api.Retired{Cause: api.EnvCall}},
		{"lh x2, 3(x0)", api.Retired{Cause: api.LoadAligned, Tval: 3}},
		{"lw x2, -4(x0)", api.Retired{Cause: api.LoadFault, Tval: 0xfffffffc}},
		{"sw x2, 2(x0)", api.Retired{Cause: api.StoreAligned, Tval: 2}},
		{"sb x2, 5(x0)", api.Retired{Cause: api.StoreFault, Tval: 5}},
		{"lr.w x2, (x0)", api.Retired{Cause: api.LoadFault}},
		{"amoadd.w x2, x2, (x0)", api.Retired{Cause: api.StoreFault}},
	} {
		text := "j body\nnop\ncsrrs x6, 0x341, x0\naddi x6, x6, 4\ncsrrw x0, 0x341, x6\nmret\nbody: li x1, 8\ncsrrw x0, 0x305, x1\n" + c.text + "\nli x3, 1\ncsrrw x0, 0x305, x0\nebreak"
		for _, made := range []api.Config{least(), plainly(), greatest()} {
			x := ends(t, text, made)
			reg(t, x, 2, 0)
			reg(t, x, 3, 1)
			for _, e := range x.Events {
				if e.Kind == api.EvRetire && e.PC == 0x20 && (e.What.Cause != c.what.Cause || e.What.Tval != c.what.Tval || e.What.Next != 8 || e.What.Rd != 0) {
					t.Errorf("C3: %s: %+v", c.text, e.What)
				}
			}
		}
	}
}
