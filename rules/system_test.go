package rules

import (
	"bytes"
	"math/rand"
	"slices"
	"testing"

	"oocore/api"
	"oocore/plain"
	"oocore/system"
)

// sharing writes and reads what the other core does, too.
const sharing = "lui x8, 16\nlui x9, 32\nli x5, 9\nli x2, 1\na: lw x1, (x8)\nadd x1, x1, x5\nsw x1, (x8)\nsb x5, (x9)\naddi x4, x8, 16\namoadd.w x3, x2, (x4)\nsw x3, 4(x8)\naddi x5, x5, -1\nbnez x5, a\nebreak"

// Each number of either configuration, and of the cycles, at the ends of all widths.
func TestSystemsOfAnyNumbers(t *testing.T) {
	code := program(t, storing)
	for _, n := range append([]int{2, 3, 4, 10, 34, 64, 128}, extremes...) {
		for k := range 29 {
			cs, cycles := []api.Config{simple(), simple()}, 30
			c := &cs[k/15]
			*[]*int{&c.Width, &c.Window, &c.Queue, &c.Registers, &c.Units, &c.MulCycles, &c.Guess.Kind, &c.Guess.Bits, &c.Guess.History, &c.Guess.Targets, &c.Guess.Returns, &c.Cache.Sets, &c.Cache.Ways, &c.BusCycles, &cycles}[k%15] = n
			x, err := system.Run([][]uint32{code, code}, make([]byte, 16), cs, [][]int{{n}, {n, 3}}, cycles)
			if among(t, "Run", err, api.ErrRange, api.ErrConfig); err != nil && !isEmpty(x) {
				t.Errorf("P1: %+v, %d cycles: %v, and a report", cs, cycles, err)
			}
			if (plain.Told(err) == api.ErrRange) != (n < 0 || n > api.MaxCycles) && k == 14 {
				t.Errorf("P3: %d cycles: %v", cycles, err)
			}
		}
	}
}

// Lists of any length, of which each may be nil.
func TestSystemsOfAnyLists(t *testing.T) {
	for codes := range 4 {
		for cs := range 4 {
			for lines := range 4 {
				x, err := system.Run(make([][]uint32, codes), nil, make([]api.Config, cs), make([][]int, lines), 5)
				if among(t, "Run", err, api.ErrRange, api.ErrImage); err == nil || !isEmpty(x) {
					t.Errorf("P1: %d codes, %d configurations, %d lists of lines: %v", codes, cs, lines, err)
				}
			}
		}
	}
}

// Words, data and lines of any kind, on two cores of any make.
func TestSystemsOfAnyWords(t *testing.T) {
	r := rand.New(rand.NewSource(53))
	for range 400 {
		codes := make([][]uint32, 2)
		cs := []api.Config{simple(), simple()}
		for n := range codes {
			codes[n] = program(t, "li x1, 8\ncsrrw x0, 0x305, x1\nlui x8, 16") // traps go on
			for range 1 + r.Intn(30) {
				word := r.Uint32()
				if r.Intn(4) > 0 {
					word = word&^0x7f | []uint32{0x37, 0x17, 0x6f, 0x67, 0x63, 0x03, 0x23, 0x13, 0x33, 0x2f, 0x0f, 0x73}[r.Intn(12)]
				}
				codes[n] = append(codes[n], word)
			}
			cs[n].Width, cs[n].Window, cs[n].Queue, cs[n].Registers = 1+r.Intn(4), 2+r.Intn(20), 1+r.Intn(8), 34+r.Intn(20)
		}
		lines := [][]int{{r.Int(), -r.Int(), r.Intn(100)}, {r.Intn(100), 0}}
		if x, err := system.Run(codes, make([]byte, 16*r.Intn(3)), cs, lines, 200); err != nil || x.Cycles > 200 || len(x.Regs) != 2 {
			t.Fatalf("P1: %08x: %v", codes, err)
		}
	}
}

// What is handed in is not written into, and what becomes of it behind Run changes nothing.
func TestSystemKeepsNoList(t *testing.T) {
	in := func() ([][]uint32, []byte, []api.Config, [][]int) {
		return [][]uint32{program(t, sharing), program(t, sharing)}, bytes.Repeat([]byte{3}, 32), []api.Config{simple(), simple()}, [][]int{{9, 4, 7, 4}, {30, 2, 5}}
	}
	codes, data, cs, lines := in()
	wantCodes, wantData, wantCs, wantLines := in()
	x, err := system.Run(codes, data, cs, lines, 900)
	if err != nil || !x.Ended {
		t.Fatalf("P2: %v", err)
	}
	for k := range 2 {
		if !slices.Equal(codes[k], wantCodes[k]) || !slices.Equal(lines[k], wantLines[k]) || cs[k] != wantCs[k] {
			t.Error("P2: what was handed in is written into")
		}
		clear(codes[k])
		clear(lines[k])
	}
	if !bytes.Equal(data, wantData) {
		t.Error("P2: the data that were handed in are written into")
	}
	clear(codes)
	clear(data)
	clear(cs)
	clear(lines)
	if y, _ := system.Run(wantCodes, wantData, wantCs, wantLines, 900); !same(x, y) || bytes.Equal(x.Data, data) {
		t.Error("P2: what was handed in is kept")
	}
}

// What comes out is the caller's: written over, up to its capacity, it changes no other report.
func TestReportsOfSystemsAreFresh(t *testing.T) {
	code := program(t, sharing)
	run := func() api.Report {
		x, _ := system.Run([][]uint32{code, code}, make([]byte, 32), []api.Config{simple(), simple()}, [][]int{nil, {5, 6}}, 900)
		return x
	}
	x, y, want := run(), run(), run()
	clear(x.Events[:cap(x.Events)])
	clear(x.Regs[:cap(x.Regs)])
	clear(x.Data[:cap(x.Data)])
	if !same(y, want) || !same(run(), want) {
		t.Error("P2: reports share memory")
	}
}

// One list that is handed in twice is as good as two.
func TestOneListForBothCores(t *testing.T) {
	code, lines := program(t, sharing), []int{8, 9, 20, 3}
	cs := []api.Config{simple(), simple()}
	x, _ := system.Run([][]uint32{code, code}, make([]byte, 32), cs, [][]int{lines, lines}, 900)
	y, _ := system.Run([][]uint32{slices.Clone(code), code}, make([]byte, 32), cs, [][]int{lines, slices.Clone(lines)}, 900)
	if !x.Ended || !same(x, y) {
		t.Error("P2: a list that both cores share makes another report")
	}
}

// The same call is answered alike, whatever other calls came in between.
func TestSystemsAreApart(t *testing.T) {
	r := rand.New(rand.NewSource(54))
	code := program(t, sharing)
	run := func(a, b api.Config) (api.Report, error) {
		return system.Run([][]uint32{code, code}, make([]byte, 32), []api.Config{a, b}, [][]int{{5, 6}, nil}, 900)
	}
	first, _ := run(simple(), simple())
	for range 50 {
		c := simple()
		c.Width, c.Window, c.BusCycles = 1+r.Intn(4), 2+r.Intn(30), r.Intn(11)
		run(c, simple())
		run(simple(), api.Config{})
		if again, err := run(simple(), simple()); err != nil || !same(first, again) {
			t.Fatalf("P2: another report, %v", err)
		}
	}
}
