package rules

import (
	"bytes"
	"math/rand"
	"slices"
	"testing"

	"oocore/api"
	"oocore/core"
	"oocore/plain"
)

func simple() api.Config {
	return api.Config{Width: 2, Window: 8, Queue: 4, Registers: 40, Units: 2, MulCycles: 3, Bold: true, Guess: api.Guessing{Kind: 2, Bits: 4, Targets: 1, Returns: 2}, Cache: api.Shape{Sets: 1, Ways: 2}, BusCycles: 1}
}

func same(a, b api.Report) bool {
	return a.Ended == b.Ended && a.Cycles == b.Cycles && a.Out == b.Out && slices.Equal(a.Events, b.Events) && slices.Equal(a.Regs, b.Regs) && bytes.Equal(a.Data, b.Data)
}

func isEmpty(x api.Report) bool {
	return !x.Ended && x.Cycles == 0 && x.Events == nil && x.Out == "" && x.Regs == nil && x.Data == nil
}

// Each number of a configuration, and of the cycles, at the ends of all widths.
func TestCoresOfAnyNumbers(t *testing.T) {
	code := program(t, storing)
	for _, n := range append([]int{2, 3, 4, 10, 34, 64, 128}, extremes...) {
		for k := range 15 {
			c, cycles := simple(), 30
			*[]*int{&c.Width, &c.Window, &c.Queue, &c.Registers, &c.Units, &c.MulCycles, &c.Guess.Kind, &c.Guess.Bits, &c.Guess.History, &c.Guess.Targets, &c.Guess.Returns, &c.Cache.Sets, &c.Cache.Ways, &c.BusCycles, &cycles}[k] = n
			x, err := core.Run(code, make([]byte, 16), c, []int{n}, cycles)
			if among(t, "Run", err, api.ErrRange, api.ErrConfig); err != nil && !isEmpty(x) {
				t.Errorf("P1: %+v, %d cycles: %v, and a report", c, cycles, err)
			}
			if (plain.Told(err) == api.ErrRange) != (n < 0 || n > api.MaxCycles) && k == 14 {
				t.Errorf("P3: %d cycles: %v", cycles, err)
			}
		}
	}
}

// Words, data and lines of any kind, on cores of any make.
func TestCoresOfAnyWords(t *testing.T) {
	r := rand.New(rand.NewSource(51))
	for range 600 {
		code := make([]uint32, 1+r.Intn(30))
		for k := range code {
			code[k] = r.Uint32()
			if r.Intn(4) > 0 {
				code[k] = code[k]&^0x7f | []uint32{0x37, 0x17, 0x6f, 0x67, 0x63, 0x03, 0x23, 0x13, 0x33, 0x2f, 0x0f, 0x73}[r.Intn(12)]
			}
		}
		if r.Intn(2) == 0 { // traps go on
			code = append(program(t, "li x1, 8\ncsrrw x0, 0x305, x1\nlui x8, 16"), code...)
		}
		lines := []int{r.Int(), -r.Int(), r.Intn(100), r.Intn(100), 0}
		c := simple()
		c.Width, c.Window, c.Queue, c.Registers = 1+r.Intn(4), 2+r.Intn(20), 1+r.Intn(8), 34+r.Intn(20)
		if x, err := core.Run(code, make([]byte, 16*r.Intn(3)), c, lines, 200); err != nil || x.Cycles > 200 || len(x.Regs) != 1 {
			t.Fatalf("P1: %08x: %v", code, err)
		}
	}
}

const busy = "lui x8, 16\nlui x9, 32\nli x5, 9\na: lw x1, (x8)\nadd x1, x1, x5\nsw x1, (x8)\nsb x5, (x9)\nmul x2, x1, x5\nsw x2, 4(x8)\naddi x5, x5, -1\nbnez x5, a\nebreak"

// What is handed in is not written into, and what becomes of it behind Run changes nothing.
func TestCoreKeepsNoList(t *testing.T) {
	code, data, lines := program(t, busy), bytes.Repeat([]byte{3}, 32), []int{9, 4, 7, 4}
	codeBefore, dataBefore, linesBefore := slices.Clone(code), slices.Clone(data), slices.Clone(lines)
	x, err := core.Run(code, data, simple(), lines, 500)
	if err != nil || !x.Ended {
		t.Fatalf("P2: %v", err)
	}
	if !slices.Equal(code, codeBefore) || !bytes.Equal(data, dataBefore) || !slices.Equal(lines, linesBefore) {
		t.Error("P2: what was handed in is written into")
	}
	y, _ := core.Run(codeBefore, dataBefore, simple(), linesBefore, 500)
	clear(code)
	clear(data)
	clear(lines)
	if !same(x, y) || bytes.Equal(x.Data, data) {
		t.Error("P2: what was handed in is kept")
	}
}

// What comes out is the caller's: written over, up to its capacity, it changes no other report.
func TestReportsAreFresh(t *testing.T) {
	code, data := program(t, busy), make([]byte, 32)
	x, _ := core.Run(code, data, simple(), nil, 500)
	y, _ := core.Run(code, data, simple(), nil, 500)
	want, _ := core.Run(code, data, simple(), nil, 500)
	clear(x.Events[:cap(x.Events)])
	clear(x.Regs[:cap(x.Regs)])
	clear(x.Data[:cap(x.Data)])
	z, _ := core.Run(code, data, simple(), nil, 500)
	if !same(y, want) || !same(z, want) {
		t.Error("P2: reports share memory")
	}
}

// The same call is answered alike, whatever other calls came in between.
func TestCoresAreApart(t *testing.T) {
	r := rand.New(rand.NewSource(52))
	code := program(t, busy)
	first, _ := core.Run(code, make([]byte, 32), simple(), []int{5, 6}, 500)
	for range 50 {
		c := simple()
		c.Width, c.Window, c.BusCycles = 1+r.Intn(4), 2+r.Intn(30), r.Intn(11)
		core.Run(program(t, storing), make([]byte, 16), c, []int{r.Intn(20)}, r.Intn(100))
		core.Run(nil, nil, c, nil, 5)
		if again, err := core.Run(code, make([]byte, 32), simple(), []int{5, 6}, 500); err != nil || !same(first, again) {
			t.Fatalf("P2: another report, %v", err)
		}
	}
}
