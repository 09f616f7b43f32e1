package system_test

import (
	"math/rand"
	"slices"
	"testing"

	"oocore/api"
	"oocore/core"
)

// One core alone is that of package core.
func TestAlone(t *testing.T) {
	for seed := range int64(200) {
		w := writer{rand.New(rand.NewSource(seed))}
		name, in := w.input(t)
		in.codes, in.cs, in.lines = in.codes[:1], in.cs[:1], in.lines[:1]
		x := checked(t, name, in)
		want, err := core.Run(in.codes[0], in.data, in.cs[0], in.lines[0], in.cycles)
		if err != nil || !same(x, want) {
			t.Fatalf("S1: %s alone: another report than that of core, %v", name, err)
		}
	}
}

// Two cores that have nothing to do with each other are two of package core.
func TestNothingInCommon(t *testing.T) {
	r := rand.New(rand.NewSource(5))
	text := "li x5, 20\na: mul x6, x5, x5\nadd x7, x7, x6\nandi x1, x5, 3\nbeqz x1, 8\ndiv x7, x7, x5\naddi x5, x5, -1\nbnez x5, a\nebreak"
	for range 40 {
		in := put(t, text, text, anyPair(r), []int{7, 30}, []int{12})
		x := checked(t, text, in)
		for k := range 2 {
			want, err := core.Run(in.codes[k], in.data, in.cs[k], in.lines[k], in.cycles)
			var own []api.Event
			for _, e := range x.Events {
				if e.Core == k {
					e.Core = 0
					own = append(own, e)
				}
			}
			if err != nil || !slices.Equal(own, want.Events) || x.Regs[k] != want.Regs[0] {
				t.Fatalf("S1: %+v: core %d, which shares nothing, has other events than by itself", in.cs, k)
			}
		}
	}
}

// One core ends long before the other: it has no more events, and its registers stay; its lines are the other's for the asking.
func TestOneEndsEarly(t *testing.T) {
	short := "lui x8, 16\nli x1, 3\nsw x1, (x8)\nsw x1, 16(x8)\nebreak"
	long := "lui x8, 16\nli x5, 200\na: lw x1, (x8)\naddi x1, x1, 1\nsw x1, (x8)\nsw x5, 16(x8)\naddi x5, x5, -1\nbnez x5, a\nebreak"
	for _, cs := range pairs() {
		for early := range 2 {
			texts := []string{long, long}
			texts[early] = short
			x := ends(t, texts[0], texts[1], cs)
			last := [2]int{}
			for _, e := range x.Events {
				last[e.Core] = e.Cycle
			}
			if last[early] > 150 || last[1-early] < 400 || x.Cycles != last[1-early]+1 {
				t.Errorf("S1: %+v: the last events come in %d, of %d cycles", cs, last, x.Cycles)
			}
			if x.Data[16] != 1 {
				t.Errorf("S2: %+v: data are %x", cs, x.Data[:32])
			}
		}
	}
}

// Ended is told only when both have, and the stores of both are written.
func TestEnded(t *testing.T) {
	cs := []api.Config{plainly(), plainly()}
	for k, texts := range [][2]string{{"ebreak", "j 0"}, {"j 0", "ebreak"}, {"j 0", "j 0"}} {
		in := put(t, texts[0], texts[1], cs)
		in.cycles = 200
		if x := checked(t, "one goes on", in); x.Ended || x.Cycles != 200 {
			t.Errorf("S1: case %d: ended %v after %d cycles", k, x.Ended, x.Cycles)
		}
	}
	text := "lui x8, 16\nsw x8, (x8)\nebreak"
	for _, n := range []int{7, 8, 9} { // core 1's store is written in cycle 7
		in := put(t, text, text, cs)
		in.cycles = n
		if x := checked(t, text, in); x.Ended != (n >= 8) || x.Cycles != min(n, 8) {
			t.Errorf("S1: of %d cycles %d are run, ended %v", n, x.Cycles, x.Ended)
		}
	}
}

// A run of fewer cycles is the beginning of a longer one.
func TestFewerCycles(t *testing.T) {
	text := "lui x8, 16\nli x1, 3\na: sw x1, (x8)\nlw x2, 4(x8)\naddi x1, x1, -1\nbnez x1, a\nebreak"
	in := put(t, text, text, []api.Config{plainly(), greatest()})
	whole := checked(t, text, in)
	for n := range whole.Cycles + 3 {
		in.cycles = n
		x, _ := in.run()
		k := 0
		for k < len(whole.Events) && whole.Events[k].Cycle < n {
			k++
		}
		if x.Cycles != min(n, whole.Cycles) || x.Ended != (n >= whole.Cycles) || !slices.Equal(x.Events, whole.Events[:k]) {
			t.Fatalf("S1: of %d cycles %d are run, ended %v, %d events, want %d", n, x.Cycles, x.Ended, len(x.Events), k)
		}
	}
}

func TestNoCycles(t *testing.T) {
	data := []byte("0123456789abcdef")
	for n := 1; n <= 2; n++ {
		in := input{slices.Repeat([][]uint32{halt}, n), data, slices.Repeat([]api.Config{plainly()}, n), slices.Repeat([][]int{{0}}, n), 0}
		x, err := in.run()
		if err != nil || x.Ended || x.Cycles != 0 || len(x.Events) != 0 || x.Out != "" || !slices.Equal(x.Regs, make([][32]uint32, n)) || !slices.Equal(x.Data, data) {
			t.Errorf("S1, C2: no cycles: %+v, %v", x, err)
		}
	}
}

func TestMostCycles(t *testing.T) {
	in := put(t, "ebreak", "ebreak", []api.Config{plainly(), plainly()})
	in.cycles = api.MaxCycles
	if x, err := in.run(); err != nil || !x.Ended || x.Cycles != 2 {
		t.Errorf("S1: ended %v after %d cycles, %v", x.Ended, x.Cycles, err)
	}
	c := plainly()
	c.Window, c.MulCycles = 2, 10
	in = put(t, "ebreak", "li x1, 1\nlui x8, 16\na: div x2, x2, x1\nlw x2, (x8)\nj a", []api.Config{c, c})
	in.cycles = api.MaxCycles
	x, err := in.run()
	if err != nil || x.Ended || x.Cycles != api.MaxCycles || x.Events[len(x.Events)-1].Cycle < api.MaxCycles-20 {
		t.Fatalf("S1: ended %v after %d cycles, %v", x.Ended, x.Cycles, err)
	}
	seq, cycle := 0, 0
	for _, e := range x.Events {
		if e.Cycle < cycle || e.Core == 1 && e.Kind == api.EvEnter && e.Seq != seq {
			t.Fatalf("C2: behind cycle %d, number %d: %+v", cycle, seq, e)
		}
		if cycle = e.Cycle; e.Core == 1 && e.Kind == api.EvEnter {
			seq++
		}
	}
}
