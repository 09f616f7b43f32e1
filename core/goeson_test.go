package core_test

import (
	"fmt"
	"math/rand"
	"strings"
	"testing"

	"oocore/api"
	"oocore/core"
)

// goesOn holds against C6 alone the longest time without EvRetire and EvDrain.
func goesOn(t *testing.T, text string, c api.Config, x api.Report) {
	t.Helper()
	last := -1
	for _, e := range append(x.Events, api.Event{Kind: api.EvRetire, Cycle: x.Cycles}) {
		if e.Kind == api.EvRetire || e.Kind == api.EvDrain {
			if n := e.Cycle - last - 1; n >= 60+6*c.BusCycles {
				t.Fatalf("C6: %q on %+v: nothing comes for %d cycles from %d on", text, c, n, last+1)
			}
			last = e.Cycle
		}
	}
}

// Many loads that want lines cannot keep a fence from its store's line.
func TestFenceAheadOfManyLoads(t *testing.T) {
	text := "lui x8, 16\nsw x8, (x8)\nfence 255\n"
	for k := 1; k < 32; k++ {
		text += fmt.Sprintf("lw x%d, %d(x8)\n", 10+k%20, 16*k)
	}
	for _, b := range []int{0, 1, 5, 10} {
		for _, width := range []int{1, 4} {
			c := greatest()
			c.BusCycles, c.Width = b, width
			x := runsWith(t, text+"ebreak", make([]byte, 512), c)
			if goesOn(t, text, c, x); !x.Ended || len(when(x, api.EvDrain, 0)) != 1 || when(x, api.EvDrain, 0)[0] > 10+3*b {
				t.Errorf("C6: BusCycles %d: the store is written in %d", b, when(x, api.EvDrain, 0))
			}
		}
	}
}

// A store that was kept from the bus, and whose line came by the ask of a load, keeps no other load from it.
func TestLoadsAskOn(t *testing.T) {
	c := plainly()
	c.MulCycles, c.Window, c.Cache.Ways = 10, 16, 4
	x := ends(t, "lui x8, 16\nsw x8, (x8)\ndiv x5, x5, x5\nlw x1, 4(x8)\nlw x2, 16(x8)\nlw x3, 32(x8)\nebreak", c)
	for k, want := range []int{4, 6, 8} {
		if got := when(x, api.EvIssue, uint32(12+4*k)); len(got) != 1 || got[0] != want {
			t.Errorf("C4: the load at %d begins in %d, want %d", 12+4*k, got, want)
		}
	}
	if got := when(x, api.EvDrain, 0); len(got) != 1 || got[0] != 4 {
		t.Errorf("C4: the store is written in %d, want 4", got)
	}
}

// Nor can loads that come for ever, of which each in its turn is the oldest, keep stores from their lines.
func TestStoresAheadOfLoadsForEver(t *testing.T) {
	text := "lui x8, 16\nsw x8, 224(x8)\nsw x8, 240(x8)\nsw x8, (x8)\na: "
	for k := 1; k <= 8; k++ {
		text += fmt.Sprintf("lw x2, %d(x8)\n", 16*k)
	}
	for _, b := range []int{0, 1, 5, 10} {
		for width := 1; width <= 4; width++ {
			c := greatest()
			c.BusCycles, c.Width, c.Cache = b, width, api.Shape{Sets: 1, Ways: 1}
			x := runs(t, text+"j a", c)
			if got := when(x, api.EvDrain, 0); len(got) != 3 || got[2] > 20+8*(b+1) {
				t.Errorf("C4: BusCycles %d, %d wide: the stores are written in %d", b, width, got)
			}
		}
	}
}

// Lines that all want the same place: loads, stores and atomic operations throw each other out.
func TestLinesThatFight(t *testing.T) {
	r := rand.New(rand.NewSource(12))
	for n := range 60 {
		lines := []string{"lui x8, 16", "addi x9, x8, 64", "addi x10, x8, 128", "li x1, 1", "li x5, 6", "a: nop"}
		for range 24 {
			base, at := r.Intn(3)+8, 16*r.Intn(4)
			lines = append(lines, []string{
				fmt.Sprintf("lw x2, %d(x%d)", at, base),
				fmt.Sprintf("lw x3, %d(x%d)", at, base),
				fmt.Sprintf("sw x2, %d(x%d)", at, base),
				fmt.Sprintf("amoadd.w x4, x1, (x%d)", base),
				"fence 255",
				"mul x2, x2, x1\nandi x6, x2, 48\nadd x6, x6, x8\nsw x1, (x6)",
			}[r.Intn(6)])
		}
		text := strings.Join(append(lines, "addi x5, x5, -1", "beqz x5, 8", "j a", "ebreak"), "\n")
		c := anyMake(r)
		c.Cache = api.Shape{Sets: 1, Ways: 1 + n%2}
		if n%3 == 0 {
			c.BusCycles, c.Window, c.Queue, c.Bold = 10, 64, 32, true
		}
		code := assemble(t, text)
		x, err := core.Run(code, make([]byte, 256), c, nil, 30000)
		if err != nil || !x.Ended {
			t.Fatalf("C6: %q on %+v: ended %v, %v", text, c, x.Ended, err)
		}
		goesOn(t, text, c, x)
		watch(t, text, code, make([]byte, 256), c, nil, 30000, x)
	}
}

// Stores that wait to be written at the end come one by one.
func TestManyStoresAtTheEnd(t *testing.T) {
	text := "lui x8, 16\n"
	for k := range 16 {
		text += fmt.Sprintf("sw x8, %d(x8)\n", 16*k)
	}
	c := greatest()
	x := ends(t, text+"ebreak", c)
	goesOn(t, text, c, x)
	if x.Cycles < 16*12 || count(x, api.EvDrain) != 16 {
		t.Errorf("C4: %d stores are written in %d cycles", count(x, api.EvDrain), x.Cycles)
	}
}
