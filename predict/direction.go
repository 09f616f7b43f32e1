package predict

import "oocore/api"

// The kinds of directions.
const (
	neverKind = iota
	backKind
	countedKind
	mixedKind
)

// direction guesses whether a branch is taken, and learns whether it was.
type direction interface {
	guess(pc uint32, imm, history int) bool
	learn(pc uint32, history int, taken bool)
}

func directionOf(g api.Guessing) direction {
	switch g.Kind {
	case backKind:
		return back{}
	case countedKind:
		return newCounted(g.Bits)
	case mixedKind:
		return mixed{newCounted(g.Bits)}
	}
	return never{}
}

// never guesses that no branch is taken.
type never struct{}

func (never) guess(pc uint32, imm, history int) bool { return false }

func (never) learn(pc uint32, history int, taken bool) {}

// back guesses that loops go round.
type back struct{}

func (back) guess(pc uint32, imm, history int) bool { return imm < 0 }

func (back) learn(pc uint32, history int, taken bool) {}

// The values of a counter.
const (
	least = iota
	atFirst
	likely // from here on a branch is guessed to be taken
	most
)

// counted has counters, by where a branch stands.
type counted struct {
	counters []uint8
}

func newCounted(bits int) counted {
	c := counted{make([]uint8, 1<<bits)}
	for k := range len(c.counters) {
		c.counters[k] = atFirst
	}
	return c
}

func (c counted) guess(pc uint32, imm, history int) bool { return c.isLikely(pc / 4) }

func (c counted) learn(pc uint32, history int, taken bool) { c.count(pc/4, taken) }

func (c counted) index(n uint32) uint32 { return n % uint32(len(c.counters)) }

func (c counted) isLikely(n uint32) bool { return c.counters[c.index(n)] >= likely }

func (c counted) count(n uint32, taken bool) {
	k := c.index(n)
	switch {
	case taken && c.counters[k] < most:
		c.counters[k]++
	case !taken && c.counters[k] > least:
		c.counters[k]--
	}
}

// mixed has counters by where a branch stands and by how those ahead of it went.
type mixed struct {
	counted
}

func (m mixed) guess(pc uint32, imm, history int) bool { return m.isLikely(pc/4 ^ uint32(history)) }

func (m mixed) learn(pc uint32, history int, taken bool) { m.count(pc/4^uint32(history), taken) }
