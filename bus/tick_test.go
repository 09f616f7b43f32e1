package bus_test

import (
	"testing"

	"oocore/api"
	"oocore/bus"
)

func TestExamples(t *testing.T) {
	b := two(t)
	asks(t, b, 0, at, read, nil)
	asks(t, b, 1, at, read, nil)
	ticks(t, b, snoop(0, at, api.Invalid, api.Exclusive))
	ticks(t, b, snoop(0, at, api.Exclusive, api.Shared), snoop(1, at, api.Invalid, api.Shared))
	noWrite(t, b, 0, at, 4)
	asks(t, b, 0, at, write, nil)
	ticks(t, b, snoop(1, at, api.Shared, api.Invalid), snoop(0, at, api.Shared, api.Exclusive))
	writes(t, b, 0, at, 4, 0x12345678)
	states(t, b, at, api.Modified, api.Invalid)
	asks(t, b, 1, at, read, nil)
	ticks(t, b, snoop(0, at, api.Modified, api.Shared), snoop(1, at, api.Invalid, api.Shared))
	reads(t, b, 1, at, 4, 0x12345678)
	asks(t, b, 0, at+0x10, write, nil)
	ticks(t, b, snoop(0, at, api.Shared, api.Invalid), snoop(0, at+0x10, api.Invalid, api.Exclusive))
}

// A transaction is done in the Tick in which it has gone on for so many; they are counted from its own beginning.
func TestCycles(t *testing.T) {
	for cycles := range 11 {
		b := made(t, cycles, 64, one, one)
		quiet(t, b, 7)
		asks(t, b, 1, at, read, nil)
		quiet(t, b, cycles)
		busy(t, b, false, true)
		ticks(t, b, snoop(1, at, 0, 2))
		busy(t, b, false, false)
		quiet(t, b, 25)

		asks(t, b, 1, at+16, write, nil)
		asks(t, b, 0, at, write, nil)
		quiet(t, b, cycles)
		ticks(t, b, snoop(1, at, 2, 0), snoop(0, at, 0, 2))
		busy(t, b, false, true)
		quiet(t, b, cycles)
		ticks(t, b, snoop(1, at+16, 0, 2))
		quiet(t, b, 25)
	}
}

// A line is not there ahead of the Tick in which it comes; until then the other cache has it, and writes.
func TestUntilItIsDone(t *testing.T) {
	b := made(t, 3, 64, one, one)
	brings(t, b, 0, at, write)
	asks(t, b, 1, at, read, nil)
	before := []api.State{api.Exclusive, api.Modified, api.Modified, api.Modified}
	for n := range uint32(4) {
		states(t, b, at, before[n], api.Invalid)
		noRead(t, b, 1, at, 4)
		writes(t, b, 0, at, 4, n)
		if n < 3 {
			quiet(t, b, 1)
		}
	}
	ticks(t, b, snoop(0, at, 3, 1), snoop(1, at, 0, 1))
	reads(t, b, 1, at, 4, 3)
}

// Core 0 is first at the beginning, and then the one that did not have the last transaction.
func TestTurns(t *testing.T) {
	b := two(t)
	asks(t, b, 1, at+16, read, nil)
	asks(t, b, 0, at, read, nil)
	ticks(t, b, snoop(0, at, 0, 2))
	ticks(t, b, snoop(1, at+16, 0, 2))

	// Both ask again and again: in turn.
	line := []uint32{at, at + 16}
	for n := range 20 {
		for core := range 2 {
			if !b.Busy(core) {
				asks(t, b, core, line[core]^32, write, nil)
			}
		}
		core := n % 2
		ticks(t, b, snoop(core, line[core], 2, 0), snoop(core, line[core]^32, 0, 2))
		line[core] ^= 32
	}
}

func TestTurnBehindOneAlone(t *testing.T) {
	for last := range 2 {
		for times := range 3 {
			b := two(t)
			for n := range times + 1 {
				brings(t, b, last, at+uint32(16*(n%2)), read)
			}
			asks(t, b, last, at+32, read, nil)
			asks(t, b, 1-last, at+48, read, nil)
			if told := b.Tick(); len(told) == 0 || told[0].Core != 1-last {
				t.Errorf("B4: behind core %d comes %x", last, told)
			}
			busy(t, b, last == 0, last == 1)
		}
	}
}

// A transaction that goes on is not put off by an ask of the other core.
func TestGoesOn(t *testing.T) {
	b := made(t, 2, 64, one, one)
	asks(t, b, 1, at, read, nil)
	quiet(t, b, 1)
	asks(t, b, 0, at, write, nil)
	quiet(t, b, 1)
	ticks(t, b, snoop(1, at, 0, 2))
	quiet(t, b, 2)
	ticks(t, b, snoop(1, at, 2, 0), snoop(0, at, 0, 2))
}

func TestAlone(t *testing.T) {
	b := made(t, 0, 64, api.Shape{Sets: 1, Ways: 2})
	quiet(t, b, 3)
	asks(t, b, 0, at+16, read, nil)
	ticks(t, b, snoop(0, at+16, 0, 2))
	asks(t, b, 0, at, write, nil)
	ticks(t, b, snoop(0, at, 0, 2))
	writes(t, b, 0, at+20, 4, 5)
	reads(t, b, 0, at, 1, 0)
	asks(t, b, 0, at+32, read, nil)
	ticks(t, b, snoop(0, at+16, 3, 0), snoop(0, at+32, 0, 2))
	want := row(64)
	copy(want[20:], []byte{5, 0, 0, 0})
	data(t, b, want)
	asks(t, b, 0, at+16, read, nil)
	ticks(t, b, snoop(0, at, 2, 0), snoop(0, at+16, 0, 2))
	reads(t, b, 0, at+20, 4, 5)
}

// drops lets a core have a line no more that the other has, too, with room left in both caches.
func drops(t *testing.T, b *bus.Bus, core int) {
	t.Helper()
	brings(t, b, core, at+16, read)
	brings(t, b, core, at+32, read)
	brings(t, b, 1-core, at+16, write)
}

// inStates has two ways a cache, and a line that is in these states.
func inStates(t *testing.T, want ...api.State) *bus.Bus {
	t.Helper()
	b := made(t, 0, 64, api.Shape{Sets: 1, Ways: 2}, api.Shape{Sets: 1, Ways: 2})
	for core, s := range want {
		if s != api.Invalid {
			brings(t, b, core, at, read)
		}
		if s == api.Modified {
			writes(t, b, core, at, 4, 0xabcd)
		}
		if s == api.Shared && want[1-core] == api.Invalid {
			brings(t, b, 1-core, at, read)
			drops(t, b, 1-core)
		}
	}
	states(t, b, at, want...)
	return b
}

// From each pair of states that there may be: asks to read and to write of core 0.
func TestAllStates(t *testing.T) {
	for _, c := range []struct {
		zero, one api.State
		toWrite   bool
		told      []api.Snoop
	}{
		{0, 0, read, []api.Snoop{snoop(0, at, 0, 2)}},
		{0, 0, write, []api.Snoop{snoop(0, at, 0, 2)}},
		{0, 1, read, []api.Snoop{snoop(0, at, 0, 1)}},
		{0, 1, write, []api.Snoop{snoop(1, at, 1, 0), snoop(0, at, 0, 2)}},
		{0, 2, read, []api.Snoop{snoop(1, at, 2, 1), snoop(0, at, 0, 1)}},
		{0, 2, write, []api.Snoop{snoop(1, at, 2, 0), snoop(0, at, 0, 2)}},
		{0, 3, read, []api.Snoop{snoop(1, at, 3, 1), snoop(0, at, 0, 1)}},
		{0, 3, write, []api.Snoop{snoop(1, at, 3, 0), snoop(0, at, 0, 2)}},
		{1, 1, write, []api.Snoop{snoop(1, at, 1, 0), snoop(0, at, 1, 2)}},
		{1, 0, write, []api.Snoop{snoop(0, at, 1, 2)}},
	} {
		for swap := range 2 {
			zero, other := swap, 1-swap
			start := []api.State{c.zero, c.one}
			b := inStates(t, start[zero], start[other])
			asks(t, b, zero, at+9, c.toWrite, nil)
			var told []api.Snoop
			for _, s := range c.told {
				told = append(told, snoop(s.Core^swap, s.Addr, s.From, s.To))
			}
			ticks(t, b, told...)
			value := uint32(0x03020100)
			if c.one == api.Modified {
				value = 0xabcd
			}
			reads(t, b, zero, at, 4, value)
			quiet(t, b, 2)
		}
	}
}
