package core_test

import (
	"fmt"
	"math"
	"testing"

	"oocore/api"
	"oocore/core"
)

var halt = []uint32{0x00100073}

// bound is a number of a configuration, and what it may be.
type bound struct {
	name        string
	least, most int
	set         func(c *api.Config, n int)
}

func bounds() []bound {
	return []bound{
		{"Width", 1, 4, func(c *api.Config, n int) { c.Width = n }},
		{"Window", 2, 64, func(c *api.Config, n int) { c.Window = n }},
		{"Queue", 1, 32, func(c *api.Config, n int) { c.Queue = n }},
		{"Registers", 34, 128, func(c *api.Config, n int) { c.Registers = n }},
		{"Units", 1, 4, func(c *api.Config, n int) { c.Units = n }},
		{"MulCycles", 1, 10, func(c *api.Config, n int) { c.MulCycles = n }},
		{"Kind", 0, 3, func(c *api.Config, n int) { c.Guess.Kind = n }},
		{"Bits", 1, 10, func(c *api.Config, n int) { c.Guess.Bits = n }},
		{"History", 0, 1, func(c *api.Config, n int) { c.Guess.History = n }},
		{"Targets", 0, 8, func(c *api.Config, n int) { c.Guess.Targets = n }},
		{"Returns", 1, 16, func(c *api.Config, n int) { c.Guess.Returns = n }},
		{"Sets", 1, 16, func(c *api.Config, n int) { c.Cache.Sets = n }},
		{"Ways", 1, 4, func(c *api.Config, n int) { c.Cache.Ways = n }},
		{"BusCycles", 0, 10, func(c *api.Config, n int) { c.BusCycles = n }},
	}
}

func TestBoundsOfConfigurations(t *testing.T) {
	for _, b := range bounds() {
		for _, n := range []int{b.least - 1, b.least, b.most, b.most + 1, -1, math.MinInt, math.MaxInt} {
			c := plainly()
			b.set(&c, n)
			var want error = api.ErrConfig
			if b.least <= n && n <= b.most {
				want = nil
			}
			x, err := core.Run(halt, nil, c, nil, 10)
			refused(t, fmt.Sprintf("%s %d", b.name, n), err, want, x)
		}
	}
	c := plainly()
	c.Cache.Sets = 3
	x, err := core.Run(halt, nil, c, nil, 10)
	refused(t, "3 sets", err, api.ErrConfig, x)
	if _, err := core.Run(halt, nil, api.Config{}, nil, 10); err == nil {
		t.Error("C1: a configuration of noughts")
	}
}

func TestBoundsOfCycles(t *testing.T) {
	for _, n := range []int{-1, math.MinInt, api.MaxCycles + 1, math.MaxInt} {
		x, err := core.Run(halt, nil, plainly(), nil, n)
		refused(t, fmt.Sprintf("%d cycles", n), err, api.ErrRange, x)
	}
	if api.MaxCycles != 1000000 {
		t.Errorf("C1: MaxCycles is %d", api.MaxCycles)
	}
}

func TestImages(t *testing.T) {
	for _, c := range []struct {
		words, bytes int
		want         error
	}{{0, 16, api.ErrImage}, {4097, 16, api.ErrImage}, {1, 8, api.ErrImage}, {1, 17, api.ErrImage}, {1, 4112, api.ErrImage}, {1, 0, nil}, {1, 16, nil}, {4096, 4096, nil}} {
		x, err := core.Run(make([]uint32, c.words), make([]byte, c.bytes), plainly(), nil, 10)
		refused(t, fmt.Sprintf("%d words, %d bytes", c.words, c.bytes), err, c.want, x)
	}
}

func TestFirstError(t *testing.T) {
	bad := plainly()
	bad.Width = 0
	late := plainly()
	late.BusCycles = 11
	for _, c := range []struct {
		name   string
		code   []uint32
		data   int
		made   api.Config
		cycles int
		want   error
	}{
		{"all", nil, 7, bad, -1, api.ErrRange},
		{"cycles and configuration", halt, 0, bad, -1, api.ErrRange},
		{"cycles and code", nil, 0, plainly(), 1000001, api.ErrRange},
		{"code and configuration", nil, 0, bad, 1, api.ErrImage},
		{"data and configuration", halt, 7, bad, 1, api.ErrImage},
		{"data and bus", halt, 7, late, 1, api.ErrImage},
		{"code and bus", nil, 16, late, 1, api.ErrImage},
	} {
		x, err := core.Run(c.code, make([]byte, c.data), c.made, nil, c.cycles)
		refused(t, c.name, err, c.want, x)
	}
}
