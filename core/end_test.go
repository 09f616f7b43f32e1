package core_test

import (
	"slices"
	"testing"

	"oocore/api"
	"oocore/core"
)

func TestNoCycles(t *testing.T) {
	data := []byte("0123456789abcdef")
	x, err := core.Run(halt, data, plainly(), []int{0}, 0)
	if err != nil || x.Ended || x.Cycles != 0 || len(x.Events) != 0 || x.Out != "" || len(x.Regs) != 1 || x.Regs[0] != [32]uint32{} || !slices.Equal(x.Data, data) {
		t.Errorf("C1, C2: no cycles: %+v, %v", x, err)
	}
}

// A run of fewer cycles is the beginning of a longer one.
func TestFewerCycles(t *testing.T) {
	code := assemble(t, "lui x8, 16\nli x1, 3\na: sw x1, (x8)\nlw x2, 4(x8)\naddi x1, x1, -1\nbnez x1, a\nebreak")
	whole, err := core.Run(code, make([]byte, 16), plainly(), nil, 1000)
	if err != nil || !whole.Ended {
		t.Fatalf("C1: %v, ended %v", err, whole.Ended)
	}
	for n := range whole.Cycles + 3 {
		x, _ := core.Run(code, make([]byte, 16), plainly(), nil, n)
		k := 0
		for k < len(whole.Events) && whole.Events[k].Cycle < n {
			k++
		}
		if x.Cycles != min(n, whole.Cycles) || x.Ended != (n >= whole.Cycles) || !slices.Equal(x.Events, whole.Events[:k]) {
			t.Fatalf("C1: of %d cycles %d are run, ended %v, %d events, want %d", n, x.Cycles, x.Ended, len(x.Events), k)
		}
	}
}

func TestMostCycles(t *testing.T) {
	if x, err := core.Run(halt, nil, plainly(), nil, api.MaxCycles); err != nil || !x.Ended || x.Cycles != 2 {
		t.Errorf("C1: ended %v after %d cycles, %v", x.Ended, x.Cycles, err)
	}
	c := plainly()
	c.Window, c.MulCycles = 2, 10
	code := assemble(t, "li x1, 1\na: div x2, x2, x1\ndiv x2, x2, x1\nj a")
	x, err := core.Run(code, nil, c, nil, api.MaxCycles)
	if err != nil || x.Ended || x.Cycles != api.MaxCycles || x.Events[len(x.Events)-1].Cycle < api.MaxCycles-10 {
		t.Fatalf("C1: ended %v after %d cycles, %v", x.Ended, x.Cycles, err)
	}
	seq, cycle := 0, 0
	for _, e := range x.Events {
		if e.Cycle < cycle || e.Kind == api.EvEnter && e.Seq != seq {
			t.Fatalf("C2: behind cycle %d, number %d: %+v", cycle, seq, e)
		}
		if cycle = e.Cycle; e.Kind == api.EvEnter {
			seq++
		}
	}
}

// A core is at its end only when what has retired is written; till then the bus has its Ticks, and nothing else happens.
func TestStoresWaitAtTheEnd(t *testing.T) {
	x := ends(t, "lui x8, 16\nsw x8, (x8)\nsw x8, 16(x8)\nsw x8, 32(x8)\nebreak", plainly())
	shows(t, x,
		"Enter 0: 0, Enter 1: 4",
		"Issue 0, Enter 2: 8, Enter 3: c",
		"Done 0, Retire 0, Issue 1, Issue 2, Issue 3, Enter 4: 10, Enter 5: 14",
		"Done 1, Done 2, Done 3, Retire 1, Retire 2",
		"Retire 3, Issue 4, Done 4, Retire 4, Squash 5",
		"Drain", "", "", "Drain", "", "", "Drain")
	if x.Data[2] != 1 || x.Data[18] != 1 || x.Data[34] != 1 {
		t.Errorf("C2: data are %x", x.Data)
	}
	code := assemble(t, "lui x8, 16\nsw x8, (x8)\nsw x8, 16(x8)\nsw x8, 32(x8)\nebreak")
	short, _ := core.Run(code, make([]byte, 64), plainly(), nil, 9)
	if short.Ended || short.Data[18] != 1 || short.Data[34] != 0 {
		t.Errorf("C1, C2: ended %v, while a store waits; data %x", short.Ended, short.Data)
	}
}

// In the cycle of a halt a store may still be written, so that it is the last.
func TestLastCycle(t *testing.T) {
	x := ends(t, "lui x9, 32\nli x1, 65\nsb x1, (x9)\nebreak", plainly())
	shows(t, x,
		"Enter 0: 0, Enter 1: 4",
		"Issue 0, Issue 1, Enter 2: 8, Enter 3: c",
		"Done 0, Done 1, Retire 0, Retire 1, Issue 2, Enter 4: 10",
		"Done 2, Retire 2, Issue 3, Done 3, Retire 3, Squash 4, Drain")
}

func TestDevice(t *testing.T) {
	x := ends(t, "lui x9, 32\nli x1, 0x141\nsb x1, (x9)\nsh x1, 2(x9)\nsw x1, (x9)\nli x1, 66\nsb x1, 3(x9)\nebreak", plainly())
	if x.Out != "AAAB" || count(x, api.EvDrain) != 4 {
		t.Errorf("C2: out %q, %d stores are written", x.Out, count(x, api.EvDrain))
	}
	// One more than there are bytes of the device, and a load of it: traps.
	for _, line := range []string{"sb x1, 4(x9)", "sb x1, -1(x9)", "lb x1, (x9)", "amoadd.w x1, x1, (x9)", "sh x1, 1(x9)"} {
		if x := ends(t, "lui x9, 32\n"+line, plainly()); x.Out != "" || len(causes(x)) != 1 || x.Events[len(x.Events)-1].PC < 4 {
			t.Errorf("C3: %s: out %q, traps %x", line, x.Out, causes(x))
		}
	}
}

func TestReport(t *testing.T) {
	x := ends(t, "lui x8, 16\nli x1, -2\nsh x1, 6(x8)\nlb x2, 7(x8)\nebreak", plainly())
	reg(t, x, 1, 0xfffffffe)
	reg(t, x, 2, 0xffffffff)
	reg(t, x, 0, 0)
	if len(x.Data) != 256 || x.Data[6] != 0xfe || x.Data[7] != 0xff {
		t.Errorf("C2: data are %x", x.Data)
	}
	for _, e := range x.Events {
		if e.Core != 0 || e.Kind != api.EvRetire && e.What != (api.Retired{}) || e.Kind == api.EvDrain && (e.Seq != 0 || e.PC != 0) {
			t.Errorf("C2: %+v", e)
		}
	}
	var last api.Retired
	for _, e := range x.Events {
		if e.Kind == api.EvRetire {
			last = e.What
		}
	}
	if want := (api.Retired{PC: 16, Word: halt[0], Cause: api.Breakpoint, Tval: 16, Next: 16}); last != want {
		t.Errorf("C2: what retired last is %+v, want %+v", last, want)
	}
}
