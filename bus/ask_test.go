package bus_test

import (
	"math"
	"testing"

	"oocore/api"
)

// wrongCores are none of a bus with two; of one with one, 1 is none either.
var wrongCores = []int{-1, 2, 3, -2, math.MinInt, math.MaxInt, 1 << 32, 1<<32 + 1}

// wrongPlaces are none of 64 bytes of data.
var wrongPlaces = []uint32{at - 1, at - 16, at + 64, at + 65, at + 4096, 0, 4, 63, 0x20000, 0x8000ffff, 0x80010000, 0xffffffff}

func TestWrongCores(t *testing.T) {
	b := two(t)
	brings(t, b, 0, at, write)
	brings(t, b, 1, at+16, write)
	for _, core := range wrongCores {
		for _, addr := range []uint32{at, at + 16, at + 63, at + 64, 0} {
			asks(t, b, core, addr, read, api.ErrRange)
			asks(t, b, core, addr, write, api.ErrRange)
			noRead(t, b, core, addr, 1)
			noWrite(t, b, core, addr, 1)
			if s := b.State(core, addr); s != api.Invalid {
				t.Errorf("B2: State(%d, %x) = %d", core, addr, s)
			}
		}
		if b.Busy(core) {
			t.Errorf("B3: Busy(%d), which is no core", core)
		}
	}
	quiet(t, b, 2)

	alone := made(t, 0, 64, one)
	asks(t, alone, 1, at, read, api.ErrRange)
	asks(t, alone, 1, at+64, write, api.ErrRange)
	noRead(t, alone, 1, at, 1)
	noWrite(t, alone, 1, at, 1)
	busy(t, alone, false, false)
	states(t, alone, at, api.Invalid, api.Invalid)
	quiet(t, alone, 2)
}

func TestWrongPlaces(t *testing.T) {
	b := made(t, 0, 64, api.Shape{Sets: 4, Ways: 4}, one)
	for k := range uint32(4) {
		brings(t, b, 0, at+16*k, write)
	}
	for _, addr := range wrongPlaces {
		for core := range 2 {
			asks(t, b, core, addr, read, api.ErrRange)
			asks(t, b, core, addr, write, api.ErrRange)
			noRead(t, b, core, addr, 1)
			noWrite(t, b, core, addr, 1)
			states(t, b, addr, api.Invalid, api.Invalid)
		}
	}
	busy(t, b, false, false)
	quiet(t, b, 2)

	empty := made(t, 0, 0, one)
	for _, addr := range append(wrongPlaces, at, at+1, at+16) {
		asks(t, empty, 0, addr, read, api.ErrRange)
		asks(t, empty, 0, addr, write, api.ErrRange)
		noRead(t, empty, 0, addr, 1)
		noWrite(t, empty, 0, addr, 1)
	}
	quiet(t, empty, 2)
}

// The first and the last byte and line of the data, of few and of most.
func TestEndsOfData(t *testing.T) {
	for _, bytes := range []int{16, 64, 4096} {
		last := at + uint32(bytes) - 16
		for i := range uint32(16) {
			for _, line := range []uint32{at, last} {
				b := made(t, 0, bytes, one, one)
				asks(t, b, 1, line+i, i%2 == 0, nil)
				ticks(t, b, snoop(1, line, 0, 2))
				reads(t, b, 1, line+i, 1, uint32(byte(line-at+i)))
				writes(t, b, 1, line+i, 1, 0xee)
				want := row(bytes)
				want[line-at+i] = 0xee
				data(t, b, want)
				brings(t, b, 0, line, read)
				data(t, b, want)
			}
		}
	}
}

// One ask a core at a time; the range is asked first.
func TestAskWhileBusy(t *testing.T) {
	b := made(t, 2, 64, one, one)
	asks(t, b, 0, at, read, nil)
	for n := range 3 {
		busy(t, b, true, n > 0)
		for _, addr := range []uint32{at, at + 5, at + 16, at + 63} {
			asks(t, b, 0, addr, read, api.ErrState)
			asks(t, b, 0, addr, write, api.ErrState)
		}
		for _, addr := range wrongPlaces {
			asks(t, b, 0, addr, read, api.ErrRange)
			asks(t, b, 0, addr, write, api.ErrRange)
		}
		if n == 0 {
			asks(t, b, 1, at+16, write, nil)
		}
		if n < 2 {
			quiet(t, b, 1)
		}
	}
	ticks(t, b, snoop(0, at, 0, 2))
	busy(t, b, false, true)
	asks(t, b, 0, at+32, read, nil)
	busy(t, b, true, true)
	quiet(t, b, 2)
	ticks(t, b, snoop(1, at+16, 0, 2))
	quiet(t, b, 2)
	ticks(t, b, snoop(0, at, 2, 0), snoop(0, at+32, 0, 2))
	busy(t, b, false, false)
}

// A line that the core has, in each state and at each of its bytes.
func TestAskForALineThatIsThere(t *testing.T) {
	for i := range uint32(16) {
		b := two(t)
		brings(t, b, 0, at, read) // Exclusive
		states(t, b, at, api.Exclusive)
		asks(t, b, 0, at+i, read, api.ErrState)
		asks(t, b, 0, at+i, write, api.ErrState)
		writes(t, b, 0, at, 1, 1)
		states(t, b, at, api.Modified)
		asks(t, b, 0, at+i, read, api.ErrState)
		asks(t, b, 0, at+i, write, api.ErrState)
		brings(t, b, 1, at, read)
		states(t, b, at, api.Shared, api.Shared)
		for core := range 2 {
			asks(t, b, core, at+i, read, api.ErrState)
		}
		busy(t, b, false, false)
		asks(t, b, 1, at+i, write, nil)
		busy(t, b, false, true)
		ticks(t, b, snoop(0, at, 1, 0), snoop(1, at, 1, 2))
		asks(t, b, 1, at+i, write, api.ErrState)
		asks(t, b, 0, at+i, read, nil)
	}
}

// Bytes are those of the core's own cache, with sizes and places as a cache has them.
func TestReadAndWriteOfACache(t *testing.T) {
	b := two(t)
	brings(t, b, 0, at, read)
	brings(t, b, 1, at+16, read)
	for i := range uint32(16) {
		for _, size := range append(sizes, 0, 3, 8, -1, math.MinInt, math.MaxInt, 1<<32+4) {
			noRead(t, b, 0, at+16+i, size)
			noRead(t, b, 1, at+i, size)
			noWrite(t, b, 0, at+16+i, size)
			noWrite(t, b, 1, at+i, size)
			may := size == 1 || size == 2 && i%2 == 0 || size == 4 && i%4 == 0
			if !may {
				noRead(t, b, 0, at+i, size)
				noWrite(t, b, 0, at+i, size)
				continue
			}
			want := uint32(0)
			for k := size - 1; k >= 0; k-- {
				want = want<<8 | i + uint32(k)
			}
			reads(t, b, 0, at+i, size, want)
			writes(t, b, 0, at+i, size, want|0x99<<(8*size))
			reads(t, b, 0, at+i, size, want)
		}
	}
	states(t, b, at, api.Modified, api.Invalid)
	states(t, b, at+31, api.Invalid, api.Exclusive)
	data(t, b, row(64))
}
