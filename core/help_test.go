package core_test

import (
	"errors"
	"math/rand"
	"slices"
	"strconv"
	"strings"
	"testing"

	"oocore/api"
	"oocore/asm"
	"oocore/core"
	"oocore/isa"
)

// plainly is the configuration of the chapter's examples.
func plainly() api.Config {
	return api.Config{Width: 2, Window: 8, Queue: 4, Registers: 40, Units: 2, MulCycles: 3, Bold: true, Guess: api.Guessing{Bits: 1, Returns: 1}, Cache: api.Shape{Sets: 1, Ways: 2}, BusCycles: 1}
}

// least has each number as low as it may be.
func least() api.Config {
	return api.Config{Width: 1, Window: 2, Queue: 1, Registers: 34, Units: 1, MulCycles: 1, Guess: api.Guessing{Bits: 1, Returns: 1}, Cache: api.Shape{Sets: 1, Ways: 1}}
}

// greatest has each number as high as it may be.
func greatest() api.Config {
	return api.Config{Width: 4, Window: 64, Queue: 32, Registers: 128, Units: 4, MulCycles: 10, Bold: true, Guess: api.Guessing{Kind: 3, Bits: 10, History: 10, Targets: 8, Returns: 16}, Cache: api.Shape{Sets: 16, Ways: 4}, BusCycles: 10}
}

// anyMake is a configuration whose numbers are often near their least.
func anyMake(r *rand.Rand) api.Config {
	upTo := func(least, most int) int { return least + r.Intn(1+r.Intn(most-least+1)) }
	bits := upTo(1, 10)
	return api.Config{
		Width: 1 + r.Intn(4), Window: upTo(2, 64), Queue: upTo(1, 32), Registers: upTo(34, 128), Units: 1 + r.Intn(4), MulCycles: upTo(1, 10), Bold: r.Intn(3) > 0,
		Guess: api.Guessing{Kind: r.Intn(4), Bits: bits, History: r.Intn(bits + 1), Targets: upTo(0, 8), Returns: upTo(1, 16)},
		Cache: api.Shape{Sets: 1 << upTo(0, 4), Ways: upTo(1, 4)}, BusCycles: upTo(0, 10),
	}
}

func assemble(t *testing.T, text string) []uint32 {
	t.Helper()
	words, line, err := asm.Assemble(text)
	if err != nil {
		t.Fatalf("line %d: %v", line, err)
	}
	return words
}

// runs runs a program of at most 5,000 cycles, and watches it.
func runs(t *testing.T, text string, c api.Config, lines ...int) api.Report {
	t.Helper()
	return runsWith(t, text, make([]byte, 256), c, lines...)
}

func runsWith(t *testing.T, text string, data []byte, c api.Config, lines ...int) api.Report {
	t.Helper()
	code := assemble(t, text)
	x, err := core.Run(code, data, c, lines, 5000)
	if err != nil {
		t.Fatalf("C1: %q on %+v: %v", text, c, err)
	}
	watch(t, text, code, data, c, lines, 5000, x)
	return x
}

// ends is runs of a program that comes to its end.
func ends(t *testing.T, text string, c api.Config, lines ...int) api.Report {
	t.Helper()
	x := runs(t, text, c, lines...)
	if !x.Ended {
		t.Fatalf("C6: %q on %+v does not end", text, c)
	}
	return x
}

func refused(t *testing.T, what string, err, want error, x api.Report) {
	t.Helper()
	if !errors.Is(err, want) {
		t.Errorf("C1: %s: %v, want %v", what, err, want)
	}
	if err != nil && (x.Ended || x.Cycles != 0 || x.Events != nil || x.Out != "" || x.Regs != nil || x.Data != nil) {
		t.Errorf("P1: %s: %v, with a report", what, err)
	}
}

func reg(t *testing.T, x api.Report, n int, want uint32) {
	t.Helper()
	if x.Regs[0][n] != want {
		t.Errorf("C2, C3: register %d is %x, want %x", n, x.Regs[0][n], want)
	}
}

func kindName(kind int) string {
	return []string{"?", "Enter", "Issue", "Done", "Retire", "Squash", "Drain"}[kind]
}

// shown has the events of each cycle as a line; of those that enter, and of interrupts, their places.
func shown(x api.Report) []string {
	lines := make([]string, x.Cycles)
	for _, e := range x.Events {
		s := kindName(e.Kind)
		if e.Kind != api.EvDrain {
			s += " " + strconv.Itoa(e.Seq)
		}
		if e.Kind == api.EvEnter || e.Seq < 0 {
			s += ": " + strconv.FormatUint(uint64(e.PC), 16)
		}
		if lines[e.Cycle] != "" {
			s = ", " + s
		}
		lines[e.Cycle] += s
	}
	return lines
}

func shows(t *testing.T, x api.Report, want ...string) {
	t.Helper()
	if got := shown(x); !slices.Equal(got, want) {
		t.Errorf("C4: the cycles are\n%s\nwant\n%s", strings.Join(got, "\n"), strings.Join(want, "\n"))
	}
}

// when tells the cycles in which something of a kind happened to the instructions at a place.
func when(x api.Report, kind int, pc uint32) (list []int) {
	for _, e := range x.Events {
		if e.Kind == kind && e.PC == pc {
			list = append(list, e.Cycle)
		}
	}
	return list
}

func count(x api.Report, kind int) (n int) {
	for _, e := range x.Events {
		if e.Kind == kind {
			n++
		}
	}
	return n
}

// causes are those of all traps.
func causes(x api.Report) (list []int) {
	for _, e := range x.Events {
		if e.Kind == api.EvRetire && e.What.Cause != api.None {
			list = append(list, e.What.Cause)
		}
	}
	return list
}

func opOf(word uint32) api.Op {
	i, _ := isa.Decode(word)
	return i.Op
}
