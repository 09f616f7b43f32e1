package system_test

import (
	"slices"
	"testing"

	"oocore/api"
)

// Both write a line: core 0 has its turn on the bus first, and has the line in cycle 5; core 1 two Ticks later.
func TestCyclesOfTwoStores(t *testing.T) {
	text := "lui x8, 16\nsw x8, (x8)\nebreak"
	shows(t, ends(t, text, text, []api.Config{plainly(), plainly()}),
		"Enter 0: 0, Enter 1: 4 | Enter 0: 0, Enter 1: 4",
		"Issue 0, Enter 2: 8, Enter 3: c | Issue 0, Enter 2: 8, Enter 3: c",
		"Done 0, Retire 0, Issue 1 | Done 0, Retire 0, Issue 1",
		"Done 1, Retire 1, Issue 2, Done 2, Retire 2, Squash 3 | Done 1, Retire 1, Issue 2, Done 2, Retire 2, Squash 3",
		" | ",
		"Drain | ",
		" | ",
		" | Drain")
}

// In a cycle all of core 0 comes ahead of all of core 1, and cycles go up.
func TestOrderOfEvents(t *testing.T) {
	text := "lui x8, 16\nli x5, 9\na: lw x1, (x8)\nadd x1, x1, x5\nsw x1, 16(x8)\naddi x5, x5, -1\nbnez x5, a\nebreak"
	for _, cs := range pairs() {
		x := ends(t, text, text, cs)
		if !slices.IsSortedFunc(x.Events, func(a, b api.Event) int { return 2*(a.Cycle-b.Cycle) + a.Core - b.Core }) {
			t.Errorf("S1: %+v: the events are not in their order", cs)
		}
		for core := range 2 {
			seq := 0
			for _, e := range x.Events {
				if e.Core == core && e.Kind == api.EvEnter {
					if e.Seq != seq {
						t.Fatalf("C2: core %d: %+v, want %d", core, e, seq)
					}
					seq++
				}
			}
		}
	}
}

// A transaction takes as long as the first core says, whatever the second one says.
func TestBusCyclesOfTheFirst(t *testing.T) {
	for first := 0; first <= 10; first += 2 {
		for second := 0; second <= 10; second += 5 {
			cs := []api.Config{plainly(), plainly()}
			cs[0].BusCycles, cs[1].BusCycles = first, second
			x := ends(t, "ebreak", "lui x8, 16\nlw x1, (x8)\nebreak", cs)
			if got := when(x, 1, api.EvRetire, 4); !slices.Equal(got, []int{3 + first}) {
				t.Errorf("S1: BusCycles %d and %d: core 1's load retires in %d, want %d", first, second, got, 3+first)
			}
		}
	}
}

// Each core is made as its own configuration says.
func TestOwnMakes(t *testing.T) {
	text := ""
	for range 40 {
		text += "li x1, 1\nli x2, 1\nli x3, 1\nli x4, 1\n"
	}
	for _, widths := range [][2]int{{1, 4}, {4, 1}, {2, 3}} {
		cs := []api.Config{greatest(), greatest()}
		cs[0].Width, cs[1].Width = widths[0], widths[1]
		x := ends(t, text+"ebreak", text+"ebreak", cs)
		for core, width := range widths {
			if got, want := when(x, core, api.EvRetire, 640)[0], 160/width; got < want || got > want+4 {
				t.Errorf("S1: core %d, %d wide, retires 160 additions in %d cycles", core, width, got)
			}
		}
	}
}

func TestHartNumbers(t *testing.T) {
	for _, cs := range pairs() {
		x := ends(t, "csrrs x1, 0xf14, x0\nebreak", "csrrs x1, 0xf14, x0\nli x2, 5\nebreak", cs)
		reg(t, x, 0, 1, 0)
		reg(t, x, 1, 1, 1)
		reg(t, x, 0, 2, 0)
		reg(t, x, 1, 2, 5)
	}
}

// What both store to the device comes in the order in which it is written.
func TestDevice(t *testing.T) {
	text := func(c string) string {
		return "lui x9, 32\nli x1, " + c + "\nli x5, 6\na: sb x1, (x9)\naddi x1, x1, 1\naddi x5, x5, -1\nbnez x5, a\nebreak"
	}
	for _, cs := range pairs() {
		x := ends(t, text("65"), text("97"), cs)
		out := [2]string{}
		want := ""
		next := []byte("Aa")
		for _, e := range x.Events {
			if e.Kind == api.EvDrain {
				want += string(next[e.Core : e.Core+1])
				next[e.Core]++
			}
		}
		for _, b := range []byte(x.Out) {
			out[b/97] += string([]byte{b})
		}
		if x.Out != want || out != [2]string{"ABCDEF", "abcdef"} {
			t.Errorf("S1, S2: %+v: out is %q, want %q", cs, x.Out, want)
		}
	}
}

// The same loop on two cores of one make: they go side by side, core 0 ahead.
func TestDeviceSideBySide(t *testing.T) {
	text := func(c string) string {
		return "lui x9, 32\nli x1, " + c + "\nsb x1, (x9)\nsb x1, 1(x9)\nsb x1, 2(x9)\nebreak"
	}
	if x := ends(t, text("65"), text("97"), []api.Config{plainly(), plainly()}); x.Out != "AaAaAa" {
		t.Errorf("S1: out is %q", x.Out)
	}
}
