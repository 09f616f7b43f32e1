package predict_test

import (
	"errors"
	"math"
	"testing"

	"oocore/api"
	"oocore/predict"
)

func isOne(g api.Guessing) bool {
	return g.Kind >= 0 && g.Kind < 4 && g.Bits > 0 && g.Bits < 11 && g.History >= 0 && g.History <= g.Bits && g.Targets >= 0 && g.Targets < 9 && g.Returns > 0 && g.Returns < 17
}

func holdsNew(t *testing.T, g api.Guessing) {
	t.Helper()
	p, err := predict.New(g)
	if isOne(g) && (p == nil || err != nil) {
		t.Fatalf("D1: New(%+v) = %v, %v", g, p != nil, err)
	}
	if !isOne(g) && (p != nil || !errors.Is(err, api.ErrConfig)) {
		t.Fatalf("D1: New(%+v) = %v, %v, want ErrConfig", g, p != nil, err)
	}
}

// Each number a little out of its range, with all others in it and out of it.
func TestConfigurations(t *testing.T) {
	for _, kind := range []int{-1, 0, 1, 2, 3, 4} {
		for bits := -1; bits <= 12; bits++ {
			for history := -2; history <= 12; history++ {
				for _, targets := range []int{-1, 0, 1, 4, 7, 8, 9} {
					for _, returns := range []int{-1, 0, 1, 2, 9, 15, 16, 17} {
						holdsNew(t, api.Guessing{Kind: kind, Bits: bits, History: history, Targets: targets, Returns: returns})
					}
				}
			}
		}
	}
}

func TestConfigurationsAtTheEnds(t *testing.T) {
	fine := api.Guessing{Kind: 3, Bits: 4, History: 4, Targets: 3, Returns: 5}
	for _, n := range []int{math.MinInt, math.MinInt32, -64, 64, 65, math.MaxInt32, math.MaxInt} {
		for k := range 5 {
			g := fine
			*[]*int{&g.Kind, &g.Bits, &g.History, &g.Targets, &g.Returns}[k] = n
			holdsNew(t, g)
		}
		holdsNew(t, api.Guessing{Kind: n, Bits: n, History: n, Targets: n, Returns: n})
	}
}

func TestNumbersOfTheChapter(t *testing.T) {
	if api.MaxBits != 10 || api.MaxTargets != 8 || api.MaxReturns != 16 {
		t.Errorf("D1: MaxBits %d, MaxTargets %d, MaxReturns %d", api.MaxBits, api.MaxTargets, api.MaxReturns)
	}
}

// A history of 0, counters of 1, empty places for targets, a stack of 0 with its top at 0.
func TestFirstState(t *testing.T) {
	for _, kind := range []int{2, 3} {
		p := made(t, api.Guessing{Kind: kind, Bits: 3, History: 0, Targets: 2, Returns: 3})
		stands(t, "D1", p, api.Mark{})
		for n := range uint32(8) {
			m := guesses(t, "D1: a counter of 1", p, n*4, branch(100), n*4+4)
			p.Learn(m, n*4, branch(100), true, n*4+100)
			guesses(t, "D1: a counter of 1, and once taken", p, n*4, branch(100), n*4+100)
		}
		for n := range uint32(8) {
			guesses(t, "D1: an empty place", p, n*4, far(0), n*4+4)
		}
		for _, top := range []int{0, 2, 1, 0} {
			stands(t, "D1: a ring of 3", p, api.Mark{Top: top})
			guesses(t, "D1: a stack of 0", p, 64, back(), 0)
		}
	}
}
