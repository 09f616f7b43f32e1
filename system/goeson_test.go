package system_test

import (
	"fmt"
	"math/rand"
	"strings"
	"testing"

	"oocore/api"
)

// goesOn holds a report of programs that ended against S3 alone: the longest time of each core without EvRetire and EvDrain.
func goesOn(t *testing.T, name string, first api.Config, x api.Report) {
	t.Helper()
	last := [2]int{-1, -1}
	for _, e := range x.Events {
		if e.Kind != api.EvRetire && e.Kind != api.EvDrain {
			continue
		}
		if n := e.Cycle - last[e.Core] - 1; n >= 200+20*first.BusCycles {
			t.Fatalf("S3: %s: core %d retires and writes nothing for %d cycles ahead of %d", name, e.Core, n, e.Cycle)
		}
		last[e.Core] = e.Cycle
	}
}

// smallest makes a core as eager as can be, with a cache of one line.
func smallest(bus int) api.Config {
	c := greatest()
	c.Cache, c.BusCycles = api.Shape{Sets: 1, Ways: 1}, bus
	return c
}

// Lines that all want the same place, and that both cores want: loads, stores and atomic operations take them from each other.
func TestLinesThatFight(t *testing.T) {
	r := rand.New(rand.NewSource(13))
	fight := func() string {
		lines := []string{"lui x8, 16", "addi x9, x8, 64", "addi x10, x8, 128", "li x1, 1", "li x5, 6", "a: nop"}
		for range 20 {
			base, at := r.Intn(3)+8, 16*r.Intn(4)
			lines = append(lines, []string{
				fmt.Sprintf("lw x2, %d(x%d)", at, base),
				fmt.Sprintf("lw x3, %d(x%d)", at, base),
				fmt.Sprintf("sw x2, %d(x%d)", at, base),
				fmt.Sprintf("amoadd.w x4, x1, (x%d)", base),
				fmt.Sprintf("lr.w x4, (x%d)\nsc.w x4, x1, (x%d)", base, base),
				"fence 255",
				"mul x2, x2, x1\nandi x6, x2, 48\nadd x6, x6, x8\nsw x1, (x6)",
			}[r.Intn(7)])
		}
		return strings.Join(append(lines, "addi x5, x5, -1", "beqz x5, 8", "j a", "ebreak"), "\n")
	}
	for n := range 80 {
		cs := anyPair(r)
		for k := range cs {
			cs[k].Cache = api.Shape{Sets: 1, Ways: 1 + n%2}
		}
		if n%3 == 0 {
			cs = []api.Config{smallest(10), smallest(0)}
		}
		a, b := fight(), fight()
		goesOn(t, a+b, cs[0], ends(t, a, b, cs))
	}
}

// One core writes a line over and over; the other one loads, stores and adds there, and comes to its end.
func TestOneLineIsHammered(t *testing.T) {
	hammer := "lui x8, 16\nli x5, 300\na: sw x5, (x8)\nsw x5, 4(x8)\naddi x5, x5, -1\nbnez x5, a\nebreak"
	for _, what := range []string{"lw x1, 8(x8)", "sw x1, 8(x8)", "amoadd.w x1, x1, (x9)", "lr.w x1, (x9)\nsc.w x2, x1, (x9)", "lw x1, 8(x8)\nsw x1, 12(x8)\nfence 255"} {
		text := "lui x8, 16\naddi x9, x8, 8\nli x5, 30\na: " + what + "\naddi x5, x5, -1\nbnez x5, a\nebreak"
		for _, cs := range append(pairs(), []api.Config{smallest(0), smallest(0)}, []api.Config{smallest(10), smallest(10)}) {
			goesOn(t, what, cs[0], ends(t, hammer, text, cs))
			goesOn(t, what, cs[0], ends(t, text, hammer, cs))
		}
	}
}

// Both cores have many loads that want lines behind a fence whose store waits, and the other core's too.
func TestFencesAheadOfManyLoads(t *testing.T) {
	many := func(at int) string {
		s := fmt.Sprintf("lui x8, 16\nsw x8, %d(x8)\nfence 255\n", at)
		for k := 1; k < 16; k++ {
			s += fmt.Sprintf("lw x%d, %d(x8)\n", 10+k%20, 16*k)
		}
		return s + "ebreak"
	}
	for _, bus := range []int{0, 1, 5, 10} {
		cs := []api.Config{greatest(), smallest(3)}
		cs[0].BusCycles = bus
		x := ends(t, many(0), many(16), cs)
		goesOn(t, "many loads", cs[0], x)
		for core := range 2 {
			if got := when(x, core, api.EvDrain, 0); len(got) != 1 || got[0] > 20+6*bus {
				t.Errorf("S3: BusCycles %d: core %d's store is written in %d", bus, core, got)
			}
		}
	}
}

// A core reads lines in turns for ever, of which its cache has place for one: the stores ahead of them are written all the same, so that the other core sees them, and comes to its end.
func TestLoadsDoNotKeepStores(t *testing.T) {
	read := "lui x8, 16\nli x1, 1\nsw x1, 224(x8)\nsw x1, 240(x8)\nsw x1, (x8)\na: "
	for k := 1; k <= 8; k++ {
		read += fmt.Sprintf("lw x2, %d(x8)\n", 16*k)
	}
	wait := "lui x8, 16\na: lw x3, (x8)\nbeqz x3, a\nebreak"
	for _, bus := range []int{0, 1, 4, 10} {
		for width := 1; width <= 4; width++ {
			cs := []api.Config{smallest(bus), plainly()}
			cs[0].Width = width
			in := put(t, read+"j a", wait, cs)
			in.cycles = 600
			x := checked(t, read, in)
			if x.Ended || x.Regs[1][3] != 1 || len(when(x, 1, api.EvRetire, 12)) != 1 {
				t.Errorf("S3: BusCycles %d, %d wide: the stores are not seen", bus, width)
			}
		}
	}
}
