package system_test

import (
	"fmt"
	"math"
	"slices"
	"testing"

	"oocore/api"
)

// of is an input of so many codes, configurations and lists of lines that are all well.
func of(codes, cs, lines int) input {
	return input{slices.Repeat([][]uint32{halt}, codes), nil, slices.Repeat([]api.Config{plainly()}, cs), make([][]int, lines), 10}
}

func TestHowMany(t *testing.T) {
	for codes := range 5 {
		for cs := range 5 {
			for lines := range 5 {
				var want error = api.ErrRange
				if codes == cs && cs == lines && (codes == 1 || codes == 2) {
					want = nil
				}
				x, err := of(codes, cs, lines).run()
				refused(t, fmt.Sprintf("%d codes, %d configurations, %d lists of lines", codes, cs, lines), err, want, x)
				if err == nil && (!x.Ended || len(x.Regs) != codes) {
					t.Errorf("S1: %d cores: %+v", codes, x)
				}
			}
		}
	}
	if api.MaxCores != 2 {
		t.Errorf("S1: MaxCores is %d", api.MaxCores)
	}
}

func TestBoundsOfCycles(t *testing.T) {
	for n := 1; n <= 2; n++ {
		for _, cycles := range []int{-1, math.MinInt, api.MaxCycles + 1, math.MaxInt} {
			in := of(n, n, n)
			in.cycles = cycles
			x, err := in.run()
			refused(t, fmt.Sprintf("%d cores, %d cycles", n, cycles), err, api.ErrRange, x)
		}
	}
}

// The code of either core, and the data.
func TestImages(t *testing.T) {
	for _, c := range []struct {
		first, second, bytes int
		want                 error
	}{
		{0, 1, 16, api.ErrImage}, {1, 0, 16, api.ErrImage}, {4097, 1, 16, api.ErrImage}, {1, 4097, 16, api.ErrImage},
		{1, 1, 8, api.ErrImage}, {1, 1, 15, api.ErrImage}, {1, 1, 17, api.ErrImage}, {1, 1, 4112, api.ErrImage},
		{1, 1, 0, nil}, {1, 4096, 16, nil}, {4096, 1, 4096, nil},
	} {
		in := of(2, 2, 2)
		in.codes, in.data = [][]uint32{make([]uint32, c.first), make([]uint32, c.second)}, make([]byte, c.bytes)
		x, err := in.run()
		refused(t, fmt.Sprintf("%d and %d words, %d bytes", c.first, c.second, c.bytes), err, c.want, x)
	}
}

// bound is a number of a configuration, and what it may be.
type bound struct {
	name        string
	least, most int
	set         func(c *api.Config, n int)
}

func bounds() []bound {
	return []bound{
		{"Width", 1, 4, func(c *api.Config, n int) { c.Width = n }},
		{"Window", 2, 64, func(c *api.Config, n int) { c.Window = n }},
		{"Queue", 1, 32, func(c *api.Config, n int) { c.Queue = n }},
		{"Registers", 34, 128, func(c *api.Config, n int) { c.Registers = n }},
		{"Units", 1, 4, func(c *api.Config, n int) { c.Units = n }},
		{"MulCycles", 1, 10, func(c *api.Config, n int) { c.MulCycles = n }},
		{"Kind", 0, 3, func(c *api.Config, n int) { c.Guess.Kind = n }},
		{"Bits", 1, 10, func(c *api.Config, n int) { c.Guess.Bits = n }},
		{"History", 0, 1, func(c *api.Config, n int) { c.Guess.History = n }},
		{"Targets", 0, 8, func(c *api.Config, n int) { c.Guess.Targets = n }},
		{"Returns", 1, 16, func(c *api.Config, n int) { c.Guess.Returns = n }},
		{"Sets", 1, 16, func(c *api.Config, n int) { c.Cache.Sets = n }},
		{"Ways", 1, 4, func(c *api.Config, n int) { c.Cache.Ways = n }},
		{"BusCycles", 0, 10, func(c *api.Config, n int) { c.BusCycles = n }},
	}
}

// Each number of either core's configuration at its ends, and one beyond; of the second one's BusCycles, too, though the bus has the first one's.
func TestBoundsOfConfigurations(t *testing.T) {
	for _, b := range bounds() {
		for core := range 2 {
			for _, n := range []int{b.least - 1, b.least, b.most, b.most + 1, -1, math.MinInt, math.MaxInt} {
				in := of(2, 2, 2)
				b.set(&in.cs[core], n)
				var want error = api.ErrConfig
				if b.least <= n && n <= b.most {
					want = nil
				}
				x, err := in.run()
				refused(t, fmt.Sprintf("core %d: %s %d", core, b.name, n), err, want, x)
			}
		}
	}
	for core := range 2 {
		in := of(2, 2, 2)
		in.cs[core].Cache.Sets = 3
		x, err := in.run()
		refused(t, fmt.Sprintf("core %d: 3 sets", core), err, api.ErrConfig, x)
	}
}

// What is asked first is told, of whichever core it is.
func TestFirstError(t *testing.T) {
	bad, late, odd := plainly(), plainly(), plainly()
	bad.Width, late.BusCycles, odd.Cache.Sets = 0, 11, 3
	good := plainly()
	none := []uint32(nil)
	for _, c := range []struct {
		name   string
		codes  [][]uint32
		data   int
		cs     []api.Config
		lines  int
		cycles int
		want   error
	}{
		{"all", [][]uint32{none, none, none}, 7, []api.Config{bad, bad, bad}, 3, -1, api.ErrRange},
		{"three codes and all else", [][]uint32{none, none, none}, 7, []api.Config{bad, bad, bad}, 3, 1, api.ErrRange},
		{"no code at all", nil, 7, nil, 0, 1, api.ErrRange},
		{"lines and code", [][]uint32{none, halt}, 0, []api.Config{good, good}, 1, 1, api.ErrRange},
		{"configurations and data", [][]uint32{halt, halt}, 7, []api.Config{good}, 2, 1, api.ErrRange},
		{"cycles and code", [][]uint32{halt, none}, 0, []api.Config{good, good}, 2, 1000001, api.ErrRange},
		{"cycles and configuration", [][]uint32{halt, halt}, 0, []api.Config{good, bad}, 2, -1, api.ErrRange},
		{"second code and first configuration", [][]uint32{halt, none}, 0, []api.Config{bad, good}, 2, 1, api.ErrImage},
		{"second code and first bus", [][]uint32{halt, none}, 0, []api.Config{late, good}, 2, 1, api.ErrImage},
		{"second code and first cache", [][]uint32{halt, none}, 0, []api.Config{odd, good}, 2, 1, api.ErrImage},
		{"first code and second configuration", [][]uint32{none, halt}, 0, []api.Config{good, bad}, 2, 1, api.ErrImage},
		{"data and both configurations", [][]uint32{halt, halt}, 7, []api.Config{late, odd}, 2, 1, api.ErrImage},
		{"both configurations", [][]uint32{halt, halt}, 0, []api.Config{late, odd}, 2, 1, api.ErrConfig},
		{"second bus", [][]uint32{halt, halt}, 0, []api.Config{good, late}, 2, 1, api.ErrConfig},
	} {
		in := input{c.codes, make([]byte, c.data), c.cs, make([][]int, c.lines), c.cycles}
		x, err := in.run()
		refused(t, c.name, err, c.want, x)
	}
}
