package system_test

import (
	"errors"
	"fmt"
	"math/rand"
	"slices"
	"strconv"
	"strings"
	"testing"

	"oocore/api"
	"oocore/asm"
	"oocore/system"
)

var halt = []uint32{0x00100073}

// input is what Run is handed.
type input struct {
	codes  [][]uint32
	data   []byte
	cs     []api.Config
	lines  [][]int
	cycles int
}

func (in input) run() (api.Report, error) {
	return system.Run(in.codes, in.data, in.cs, in.lines, in.cycles)
}

// plainly is the configuration of doc/11's examples.
func plainly() api.Config {
	return api.Config{Width: 2, Window: 8, Queue: 4, Registers: 40, Units: 2, MulCycles: 3, Bold: true, Guess: api.Guessing{Bits: 1, Returns: 1}, Cache: api.Shape{Sets: 1, Ways: 2}, BusCycles: 1}
}

// least has each number as low as it may be.
func least() api.Config {
	return api.Config{Width: 1, Window: 2, Queue: 1, Registers: 34, Units: 1, MulCycles: 1, Guess: api.Guessing{Bits: 1, Returns: 1}, Cache: api.Shape{Sets: 1, Ways: 1}}
}

// greatest has each number as high as it may be.
func greatest() api.Config {
	return api.Config{Width: 4, Window: 64, Queue: 32, Registers: 128, Units: 4, MulCycles: 10, Bold: true, Guess: api.Guessing{Kind: 3, Bits: 10, History: 10, Targets: 8, Returns: 16}, Cache: api.Shape{Sets: 16, Ways: 4}, BusCycles: 10}
}

// anyMake is a configuration whose numbers are often near their least.
func anyMake(r *rand.Rand) api.Config {
	upTo := func(least, most int) int { return least + r.Intn(1+r.Intn(most-least+1)) }
	bits := upTo(1, 10)
	return api.Config{
		Width: 1 + r.Intn(4), Window: upTo(2, 64), Queue: upTo(1, 32), Registers: upTo(34, 128), Units: 1 + r.Intn(4), MulCycles: upTo(1, 10), Bold: r.Intn(3) > 0,
		Guess: api.Guessing{Kind: r.Intn(4), Bits: bits, History: r.Intn(bits + 1), Targets: upTo(0, 8), Returns: upTo(1, 16)},
		Cache: api.Shape{Sets: 1 << upTo(0, 4), Ways: upTo(1, 4)}, BusCycles: upTo(0, 10),
	}
}

// pairs are makes of two cores: the same ones and others.
func pairs() [][]api.Config {
	var list [][]api.Config
	for _, a := range []api.Config{least(), plainly(), greatest()} {
		for _, b := range []api.Config{least(), plainly(), greatest()} {
			list = append(list, []api.Config{a, b})
		}
	}
	return list
}

// anyPair is of one make, or of two.
func anyPair(r *rand.Rand) []api.Config {
	a, b := anyMake(r), anyMake(r)
	if r.Intn(4) == 0 {
		b = a
	}
	return []api.Config{a, b}
}

func assemble(t *testing.T, text string) []uint32 {
	t.Helper()
	words, line, err := asm.Assemble(text)
	if err != nil {
		t.Fatalf("%q: line %d: %v", text, line, err)
	}
	return words
}

// put makes two programs an input, with 256 bytes of noughts, of at most 20,000 cycles.
func put(t *testing.T, a, b string, cs []api.Config, lines ...[]int) input {
	t.Helper()
	if lines == nil {
		lines = make([][]int, 2)
	}
	return input{[][]uint32{assemble(t, a), assemble(t, b)}, make([]byte, 256), cs, lines, 20000}
}

// checked runs an input, and holds the report against the machine of S2, and against the watcher.
func checked(t *testing.T, name string, in input) api.Report {
	t.Helper()
	x, err := in.run()
	if err != nil {
		t.Fatalf("S1: %s: %v", name, err)
	}
	replay(t, name, in, x)
	watch(t, name, in, x)
	return x
}

// runs runs two programs, checked.
func runs(t *testing.T, a, b string, cs []api.Config, lines ...[]int) api.Report {
	t.Helper()
	return checked(t, fmt.Sprintf("%q and %q on %+v", a, b, cs), put(t, a, b, cs, lines...))
}

// ends is runs of programs that come to their end.
func ends(t *testing.T, a, b string, cs []api.Config, lines ...[]int) api.Report {
	t.Helper()
	x := runs(t, a, b, cs, lines...)
	if !x.Ended {
		t.Fatalf("S3: %q and %q on %+v do not end", a, b, cs)
	}
	return x
}

func refused(t *testing.T, what string, err, want error, x api.Report) {
	t.Helper()
	if !errors.Is(err, want) {
		t.Errorf("S1: %s: %v, want %v", what, err, want)
	}
	if err != nil && (x.Ended || x.Cycles != 0 || x.Events != nil || x.Out != "" || x.Regs != nil || x.Data != nil) {
		t.Errorf("P1: %s: %v, with a report", what, err)
	}
}

func reg(t *testing.T, x api.Report, core, n int, want uint32) {
	t.Helper()
	if x.Regs[core][n] != want {
		t.Errorf("S2: core %d, register %d is %x, want %x", core, n, x.Regs[core][n], want)
	}
}

func kindName(kind int) string {
	return []string{"?", "Enter", "Issue", "Done", "Retire", "Squash", "Drain"}[kind]
}

// shown has the events of each cycle as a line, those of core 1 behind a bar; of those that enter, and of interrupts, their places.
func shown(x api.Report) []string {
	lines := make([]string, x.Cycles)
	for n := range x.Regs {
		var list []string
		for k := range x.Cycles {
			list = nil
			for _, e := range x.Events {
				if e.Core == n && e.Cycle == k {
					list = append(list, told(e))
				}
			}
			if n > 0 {
				lines[k] += " | "
			}
			lines[k] += strings.Join(list, ", ")
		}
	}
	return lines
}

func told(e api.Event) string {
	s := kindName(e.Kind)
	if e.Kind != api.EvDrain {
		s += " " + strconv.Itoa(e.Seq)
	}
	if e.Kind == api.EvEnter || e.Seq < 0 {
		s += ": " + strconv.FormatUint(uint64(e.PC), 16)
	}
	return s
}

func shows(t *testing.T, x api.Report, want ...string) {
	t.Helper()
	if got := shown(x); !slices.Equal(got, want) {
		t.Errorf("S1, C4: the cycles are\n%s\nwant\n%s", strings.Join(got, "\n"), strings.Join(want, "\n"))
	}
}

// when tells the cycles in which something of a kind happened to a core's instructions at a place.
func when(x api.Report, core, kind int, pc uint32) (list []int) {
	for _, e := range x.Events {
		if e.Core == core && e.Kind == kind && e.PC == pc {
			list = append(list, e.Cycle)
		}
	}
	return list
}

// same tells whether two reports are the same.
func same(x, y api.Report) bool {
	return x.Ended == y.Ended && x.Cycles == y.Cycles && x.Out == y.Out && slices.Equal(x.Events, y.Events) && slices.Equal(x.Regs, y.Regs) && slices.Equal(x.Data, y.Data)
}
