package run_test

import (
	"encoding/hex"
	"fmt"
	"math/rand"
	"strings"
	"testing"

	"oocore/api"
	"oocore/arch"
	"oocore/asm"
	"oocore/core"
	"oocore/run"
)

// plainly is the configuration of doc/11's examples.
func plainly() api.Config {
	return api.Config{Width: 2, Window: 8, Queue: 4, Registers: 40, Units: 2, MulCycles: 3, Bold: true, Guess: api.Guessing{Bits: 1, Returns: 1}, Cache: api.Shape{Sets: 1, Ways: 2}, BusCycles: 1}
}

// least has each number as low as it may be.
func least() api.Config {
	return api.Config{Width: 1, Window: 2, Queue: 1, Registers: 34, Units: 1, MulCycles: 1, Guess: api.Guessing{Bits: 1, Returns: 1}, Cache: api.Shape{Sets: 1, Ways: 1}}
}

// slowest is the least one, with all that takes time taking the most.
func slowest() api.Config {
	c := least()
	c.MulCycles, c.BusCycles = 10, 10
	return c
}

// greatest has each number as high as it may be.
func greatest() api.Config {
	return api.Config{Width: 4, Window: 64, Queue: 32, Registers: 128, Units: 4, MulCycles: 10, Bold: true, Guess: api.Guessing{Kind: 3, Bits: 10, History: 10, Targets: 8, Returns: 16}, Cache: api.Shape{Sets: 16, Ways: 4}, BusCycles: 10}
}

// anyMake is a configuration whose numbers are often near their least.
func anyMake(r *rand.Rand) api.Config {
	upTo := func(least, most int) int { return least + r.Intn(1+r.Intn(most-least+1)) }
	bits := upTo(1, 10)
	return api.Config{
		Width: 1 + r.Intn(4), Window: upTo(2, 64), Queue: upTo(1, 32), Registers: upTo(34, 128), Units: 1 + r.Intn(4), MulCycles: upTo(1, 10), Bold: r.Intn(3) > 0,
		Guess: api.Guessing{Kind: r.Intn(4), Bits: bits, History: r.Intn(bits + 1), Targets: upTo(0, 8), Returns: upTo(1, 16)},
		Cache: api.Shape{Sets: 1 << upTo(0, 4), Ways: upTo(1, 4)}, BusCycles: upTo(0, 10),
	}
}

// makes are the ends of what a core may be made of, and so many others.
func makes(seed int64, others int) []api.Config {
	list := []api.Config{plainly(), least(), slowest(), greatest()}
	r := rand.New(rand.NewSource(seed))
	for range others {
		list = append(list, anyMake(r))
	}
	return list
}

func assemble(t *testing.T, text string) []uint32 {
	t.Helper()
	code, line, err := asm.Assemble(text)
	if err != nil {
		t.Fatalf("%.100q: line %d: %v", text, line, err)
	}
	return code
}

func fromHex(t *testing.T, digits string) []byte {
	t.Helper()
	data, err := hex.DecodeString(digits)
	if err != nil {
		t.Fatal(err)
	}
	return data
}

// count is how many events of a kind there are.
func count(x api.Report, kind int) (n int) {
	for _, e := range x.Events {
		if e.Kind == kind {
			n++
		}
	}
	return n
}

// ran is a core's own report of a text.
func ran(t *testing.T, text, digits string, c api.Config, cycles int) api.Report {
	t.Helper()
	x, err := core.Run(assemble(t, text), fromHex(t, digits), c, nil, cycles)
	if err != nil {
		t.Fatalf("C1: %.100q: %v", text, err)
	}
	return x
}

// memory is data and device as they were at some time.
type memory struct {
	data []byte
	out  string
}

// modelled is what is to be told of a program that has retired so many instructions, and written so many stores, by doc/04: the stores that are not written are the last ones.
func modelled(t *testing.T, code []uint32, data []byte, retired, written int) string {
	t.Helper()
	m, err := arch.New(code, data)
	if err != nil {
		t.Fatal(err)
	}
	past, stores := []memory{{m.Data(), m.Out()}}, 0
	for k := range retired {
		op := m.Hart().Ask().Op
		if _, ok := m.Step(); !ok {
			t.Fatalf("C3: the machine is halted after %d instructions, and not after %d", k, retired)
		}
		stored := api.Sb <= op && op <= api.Sw
		if stored {
			stores++
		}
		if stored || op >= api.LrW {
			past = append(past, memory{m.Data(), m.Out()})
		}
	}
	seen := past[len(past)-1-(stores-written)]
	return lines(m, seen, m.Hart().Halted() && stores == written, retired)
}

// lines are what the chapter's table says.
func lines(m *arch.Machine, seen memory, ended bool, retired int) string {
	var s strings.Builder
	if ended {
		fmt.Fprintf(&s, "ended after %d instructions\n", retired)
	} else {
		fmt.Fprintf(&s, "cut off after %d instructions\n", retired)
	}
	for k := range 32 {
		if v := m.Hart().Reg(k); v != 0 {
			fmt.Fprintf(&s, "x%d = %08x\n", k, v)
		}
	}
	if len(seen.out) > 0 {
		fmt.Fprintf(&s, "out = %x\n", seen.out)
	}
	for k := 0; k < len(seen.data); k += 4 {
		if b := seen.data[k : k+4]; b[0]|b[1]|b[2]|b[3] != 0 {
			fmt.Fprintf(&s, "%05x = %02x%02x%02x%02x\n", 0x10000+k, b[3], b[2], b[1], b[0])
		}
	}
	return s.String()
}

// follows: what is told of a text is a run by doc/04. It hands on what was told.
func follows(t *testing.T, text, digits string, c api.Config, cycles int) string {
	t.Helper()
	x := ran(t, text, digits, c, cycles)
	want := modelled(t, assemble(t, text), fromHex(t, digits), count(x, api.EvRetire), count(x, api.EvDrain))
	got, err := run.Text(text, digits, c, cycles)
	if err != nil || got != want {
		t.Fatalf("R1: %q with %.100q on %+v, %d cycles:\n%s%v, want\n%s", text, digits, c, cycles, got, err, want)
	}
	return got
}

// ends is follows of a text that ends.
func ends(t *testing.T, text, digits string, c api.Config) string {
	t.Helper()
	got := follows(t, text, digits, c, 100000)
	if !strings.HasPrefix(got, "ended after ") {
		t.Fatalf("R1: %q on %+v: %s", text, c, got)
	}
	return got
}

// tells: what is told of a text, whatever the core is made of.
func tells(t *testing.T, text, digits string, want ...string) {
	t.Helper()
	for _, c := range makes(1, 8) {
		if got := ends(t, text, digits, c); got != strings.Join(want, "\n")+"\n" {
			t.Errorf("R1: %q with %.100q on %+v:\n%s", text, digits, c, got)
		}
	}
}
