package bus_test

import (
	"errors"
	"slices"
	"testing"

	"oocore/api"
	"oocore/bus"
)

const (
	at    = uint32(api.DataBase)
	read  = false
	write = true
)

var (
	one   = api.Shape{Sets: 1, Ways: 1}
	sizes = []int{1, 2, 4}
)

// row has n bytes: 0, 1, 2, ...
func row(n int) []byte {
	data := make([]byte, n)
	for i := range data {
		data[i] = byte(i)
	}
	return data
}

func made(t *testing.T, cycles, bytes int, shapes ...api.Shape) *bus.Bus {
	t.Helper()
	b, err := bus.New(shapes, cycles, row(bytes))
	if err != nil || b == nil {
		t.Fatalf("B1: New(%v, %d, %d bytes) = %v, %v", shapes, cycles, bytes, b != nil, err)
	}
	return b
}

// two has two cores with one line each, whose transactions are done at once.
func two(t *testing.T) *bus.Bus {
	t.Helper()
	return made(t, 0, 64, one, one)
}

func asks(t *testing.T, b *bus.Bus, core int, addr uint32, toWrite bool, want error) {
	t.Helper()
	if err := b.Ask(core, addr, toWrite); !errors.Is(err, want) {
		t.Errorf("B3: Ask(%d, %x, %v) = %v, want %v", core, addr, toWrite, err, want)
	}
}

func busy(t *testing.T, b *bus.Bus, want ...bool) {
	t.Helper()
	for core, is := range want {
		if b.Busy(core) != is {
			t.Errorf("B3: Busy(%d) = %v", core, !is)
		}
	}
}

func snoop(core int, addr uint32, from, to api.State) api.Snoop {
	return api.Snoop{Core: core, Addr: addr, From: from, To: to}
}

func ticks(t *testing.T, b *bus.Bus, want ...api.Snoop) {
	t.Helper()
	if got := b.Tick(); !slices.Equal(got, want) {
		t.Errorf("B4: Tick() = %x, want %x", got, want)
	}
}

// quiet has Ticks that tell nothing.
func quiet(t *testing.T, b *bus.Bus, n int) {
	t.Helper()
	for range n {
		ticks(t, b)
	}
}

// brings lets a core have a line, at the end of its transaction.
func brings(t *testing.T, b *bus.Bus, core int, addr uint32, toWrite bool) {
	t.Helper()
	asks(t, b, core, addr, toWrite, nil)
	for n := 0; b.Busy(core); n++ {
		if b.Tick(); n > 30 {
			t.Fatalf("B4: the line %x does not come to core %d", addr, core)
		}
	}
}

func states(t *testing.T, b *bus.Bus, addr uint32, want ...api.State) {
	t.Helper()
	for core, s := range want {
		if got := b.State(core, addr); got != s {
			t.Errorf("B2: State(%d, %x) = %d, want %d", core, addr, got, s)
		}
	}
}

func reads(t *testing.T, b *bus.Bus, core int, addr uint32, size int, want uint32) {
	t.Helper()
	if v, ok := b.Read(core, addr, size); v != want || !ok {
		t.Errorf("B2: Read(%d, %x, %d) = %x, %v, want %x", core, addr, size, v, ok, want)
	}
}

func noRead(t *testing.T, b *bus.Bus, core int, addr uint32, size int) {
	t.Helper()
	if v, ok := b.Read(core, addr, size); v != 0 || ok {
		t.Errorf("B2: Read(%d, %x, %d) = %x, %v, want false", core, addr, size, v, ok)
	}
}

func writes(t *testing.T, b *bus.Bus, core int, addr uint32, size int, data uint32) {
	t.Helper()
	if !b.Write(core, addr, size, data) {
		t.Errorf("B2: Write(%d, %x, %d) = false", core, addr, size)
	}
}

func noWrite(t *testing.T, b *bus.Bus, core int, addr uint32, size int) {
	t.Helper()
	if b.Write(core, addr, size, 0xffffffff) {
		t.Errorf("B2: Write(%d, %x, %d) = true", core, addr, size)
	}
}

func data(t *testing.T, b *bus.Bus, want []byte) {
	t.Helper()
	if got := b.Data(); !slices.Equal(got, want) {
		t.Errorf("B5: Data() = %x, want %x", got, want)
	}
}
