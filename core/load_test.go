package core_test

import (
	"testing"

	"oocore/api"
	"oocore/core"
)

// A line that is asked for in a cycle comes with the Tick that is BusCycles behind the next one, and is used at once.
func TestBusCycles(t *testing.T) {
	for n := 0; n <= 10; n++ {
		c := plainly()
		c.BusCycles, c.MulCycles = n, 10
		// As the oldest, the load asks in cycle 2, and begins, is done and retires when its line comes.
		x := ends(t, "lui x8, 16\nlw x1, (x8)\nebreak", c)
		if got := when(x, api.EvRetire, 4); len(got) != 1 || got[0] != 3+n {
			t.Errorf("C4: BusCycles %d: the load retires in %d, want %d", n, got, 3+n)
		}
		// Behind a quotient it asks in cycle 2, too, and begins when its line comes.
		x = ends(t, "lui x8, 16\ndiv x2, x2, x2\nlw x1, (x8)\nebreak", c)
		if got := when(x, api.EvIssue, 8); len(got) != 1 || got[0] != 3+n {
			t.Errorf("C4: BusCycles %d: the load begins in %d, want %d", n, got, 3+n)
		}
		// A store retires in cycle 3, and asks then.
		x = ends(t, "lui x8, 16\nsw x8, (x8)\nebreak", c)
		if last := x.Events[len(x.Events)-1]; last.Kind != api.EvDrain || last.Cycle != 4+n || x.Cycles != 5+n {
			t.Errorf("C4: BusCycles %d: the store is written in %d, want %d", n, last.Cycle, 4+n)
		}
		// An atomic operation asks in cycle 2, as soon as it is the oldest.
		x = ends(t, "lui x8, 16\namoswap.w x1, x8, (x8)\nebreak", c)
		if got := when(x, api.EvRetire, 4); len(got) != 1 || got[0] != 3+n {
			t.Errorf("C4: BusCycles %d: the atomic operation retires in %d, want %d", n, got, 3+n)
		}
	}
}

// All bytes come of stores: no line is needed. One comes of memory: it is.
func TestBytesOfStores(t *testing.T) {
	c := plainly()
	c.BusCycles = 10
	x := ends(t, "lui x8, 16\nli x1, -1\nsw x1, (x8)\nlh x2, 2(x8)\nebreak", c)
	if load, drained := when(x, api.EvRetire, 12), when(x, api.EvDrain, 0); load[0] >= drained[0] {
		t.Errorf("C4: the load retires in %d, the store is written in %d", load, drained)
	}
	reg(t, x, 2, 0xffffffff)
	x = runsWith(t, "lui x8, 16\nli x1, -1\nsb x1, 2(x8)\nlw x2, (x8)\nebreak", []byte("0123456789abcdef"), c)
	reg(t, x, 2, 0x33ff3130)
}

// Each byte comes of the youngest store that writes it, whether it has retired or not.
func TestMergedBytes(t *testing.T) {
	text := "lui x8, 16\nli x1, 0x11\nli x2, 0x22\nli x3, 0x33\nsb x1, (x8)\nsh x2, 2(x8)\nsb x3, 3(x8)\nlw x4, (x8)\nsw x3, (x8)\nlb x5, (x8)\nlhu x6, 2(x8)\nebreak"
	for _, c := range []api.Config{least(), plainly(), greatest()} {
		x := runsWith(t, text, []byte("0123456789abcdef"), c)
		reg(t, x, 4, 0x33223111)
		reg(t, x, 5, 0x33)
		reg(t, x, 6, 0)
	}
}

const lateStore = "lui x8, 16\nlw x9, (x8)\ndiv x2, x0, x8\nadd x2, x2, x8\nsw x8, 4(x2)\nlw x3, (x8)\nlw x4, 4(x8)\nadd x5, x4, x4\nebreak"

// A load behind a store whose address is not known waits, or goes ahead: boldly. If it was wrong, it is thrown away with all behind it, but not the loads ahead of it.
func TestBold(t *testing.T) {
	c := greatest()
	c.BusCycles = 0
	for _, bold := range []bool{false, true} {
		c.Bold = bold
		x := ends(t, lateStore, c)
		store, first, second := when(x, api.EvIssue, 16), when(x, api.EvIssue, 20), when(x, api.EvIssue, 24)
		if (first[0] < store[0]) != bold || len(first) != 1 || (second[0] < store[0]) != bold || len(second) != 1+len(when(x, api.EvSquash, 24)) {
			t.Errorf("C4: bold %v: the store begins in %d, the loads in %d and %d", bold, store, first, second)
		}
		if again := when(x, api.EvSquash, 24); (len(again) == 1) != bold || len(when(x, api.EvSquash, 20)) != 0 || len(when(x, api.EvEnter, 28)) != 1+len(again) {
			t.Errorf("C4: bold %v: the load is thrown away in %d", bold, again)
		}
		reg(t, x, 3, 0)
		reg(t, x, 5, 0x20000)
	}
}

// A line has one place: the second load's line lets the first one's leave, whose load is thrown away, with all behind it, and begins again.
func TestLineLeft(t *testing.T) {
	c := plainly()
	c.Cache.Ways, c.MulCycles = 1, 10
	text := "lui x8, 16\ndiv x1, x8, x8\nlw x2, (x8)\nlw x3, 16(x8)\nebreak"
	x := ends(t, text, c)
	all := shown(x)
	if all[4] != "Issue 2" || all[5] != "Done 2" || all[6] != "Squash 5, Squash 4, Squash 3, Squash 2, Enter 6: 8, Enter 7: c" {
		t.Errorf("C4: the cycles 4 to 6 are %q", all[4:7])
	}
	c.Cache.Ways = 2
	if x := ends(t, text, c); len(when(x, api.EvSquash, 8)) != 0 || len(when(x, api.EvIssue, 8)) != 1 {
		t.Errorf("C4: in a cache of two lines the load is thrown away in %d", when(x, api.EvSquash, 8))
	}
}

// A load whose bytes come of stores does not mind which lines leave, until the store is written.
func TestLineLeftOfBytesOfStores(t *testing.T) {
	c := plainly()
	c.Cache.Ways, c.MulCycles, c.Window = 1, 10, 16
	x := ends(t, "lui x8, 16\ndiv x1, x8, x8\nsw x8, (x8)\nlw x2, (x8)\nlw x3, 16(x8)\nlw x3, 32(x8)\nebreak", c)
	if got := when(x, api.EvSquash, 12); len(got) != 0 && got[0] < when(x, api.EvDrain, 0)[0] {
		t.Errorf("C4: the load is thrown away in %d", got)
	}
	reg(t, x, 2, 0x10000)
}

// The bus is asked for the line of a load only when nothing else holds it up: else the wrong line would be on its way.
func TestNoNeedlessAsks(t *testing.T) {
	c := plainly()
	c.Bold, c.MulCycles, c.BusCycles, c.Window, c.Cache = false, 10, 0, 16, api.Shape{Sets: 1, Ways: 1}
	// The second load must wait for the store: the first one's line stays until it has retired.
	x := ends(t, "lui x8, 16\ndiv x2, x0, x8\nlw x4, 32(x8)\nadd x2, x2, x8\nsw x8, (x2)\nlw x3, 16(x8)\nebreak", c)
	if got := when(x, api.EvSquash, 8); len(got) != 0 {
		t.Errorf("C4: the first load is thrown away in %d", got)
	}
}

// Loads and stores that trap need no line, nor wait for stores; they are no stores to others.
func TestTrapsOfMemory(t *testing.T) {
	for line, cause := range map[string]int{"lw x1, 2(x8)": api.LoadAligned, "lh x1, 1(x8)": api.LoadAligned, "lw x1, 256(x8)": api.LoadFault, "lb x1, -1(x8)": api.LoadFault, "sw x1, 2(x8)": api.StoreAligned, "sb x1, 256(x8)": api.StoreFault, "sh x1, (x0)": api.StoreFault} {
		for _, c := range []api.Config{least(), plainly(), greatest()} {
			x := ends(t, "lui x8, 16\ndiv x2, x0, x8\nsw x8, (x8)\n"+line+"\nlw x3, (x8)\nli x4, 1\nebreak", c)
			if got := causes(x); len(got) != 1 || got[0] != cause || x.Data[2] != 1 {
				t.Errorf("C3: %s: traps %x, data %x", line, got, x.Data[:4])
			}
			reg(t, x, 3, 0)
			reg(t, x, 4, 0)
		}
	}
}

// A load that traps begins when its address is there, is done in the next cycle, and what reads its register may begin then: it is thrown away later.
func TestTrapIsComputed(t *testing.T) {
	c := plainly()
	c.MulCycles = 10
	x := ends(t, "div x1, x1, x1\nlw x2, (x0)\nadd x3, x2, x2\nebreak", c)
	for _, w := range []struct{ kind, pc, want int }{{api.EvIssue, 4, 1}, {api.EvDone, 4, 2}, {api.EvIssue, 8, 2}, {api.EvRetire, 4, 11}, {api.EvSquash, 8, 11}} {
		if got := when(x, w.kind, uint32(w.pc)); len(got) != 1 || got[0] != w.want {
			t.Errorf("C4: %s at %d in the cycles %d, want %d", kindName(w.kind), w.pc, got, w.want)
		}
	}
}

// Stores are written in order, one in a cycle at most.
func TestDrains(t *testing.T) {
	c := greatest()
	x := runsWith(t, "lui x8, 16\nlw x1, (x8)\nfence 255\nsb x8, (x8)\nsb x8, 1(x8)\nsb x8, 2(x8)\nsb x8, 3(x8)\nebreak", make([]byte, 16), c)
	got := when(x, api.EvDrain, 0)
	if len(got) != 4 || got[1] != got[0]+1 || got[2] != got[0]+2 || got[3] != got[0]+3 {
		t.Errorf("C4: stores are written in %d", got)
	}
	if retired := when(x, api.EvRetire, 12); len(retired) != 1 || retired[0] != got[0] {
		t.Errorf("C4: the first store retires in %d, and they are written from %d on", retired, got)
	}
}

// Data of 4,096 bytes, at both ends, through a small cache.
func TestAllData(t *testing.T) {
	data := make([]byte, api.MaxData)
	for k := range data {
		data[k] = byte(k * 7)
	}
	text := "lui x8, 16\nlui x9, 17\nmv x5, x8\na: lw x1, (x5)\nadd x2, x2, x1\nsb x2, 5(x5)\naddi x5, x5, 64\nbne x5, x9, a\nlbu x3, -1(x9)\nebreak"
	for _, c := range []api.Config{least(), plainly(), greatest()} {
		x := runsWith(t, text, data, c)
		if !x.Ended || x.Regs[0][3] != uint32(data[4095]) {
			t.Errorf("C3: x3 is %x, ended %v", x.Regs[0][3], x.Ended)
		}
	}
	if x, _ := core.Run(assemble(t, "lui x8, 16\nlw x1, (x8)\nebreak"), nil, plainly(), nil, 100); len(causes(x)) != 1 || causes(x)[0] != api.LoadFault || len(x.Data) != 0 {
		t.Errorf("C3: without data: traps %x, %d bytes", causes(x), len(x.Data))
	}
}
