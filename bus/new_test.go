package bus_test

import (
	"errors"
	"math"
	"testing"

	"oocore/api"
	"oocore/bus"
)

func refused(t *testing.T, shapes []api.Shape, cycles, bytes int, want error) {
	t.Helper()
	if b, err := bus.New(shapes, cycles, make([]byte, bytes)); b != nil || !errors.Is(err, want) {
		t.Errorf("B1: New(%v, %d, %d bytes) = %v, %v, want %v", shapes, cycles, bytes, b != nil, err, want)
	}
}

func TestNewOfWrongNumbers(t *testing.T) {
	// Data that are none, or are some, are asked for behind the configuration.
	for _, bytes := range []int{0, 16, 4096, 1, 15, 4112} {
		for _, n := range []int{0, 3, 4, 100} {
			shapes := make([]api.Shape, n)
			for k := range shapes {
				shapes[k] = one
			}
			refused(t, shapes, 0, bytes, api.ErrConfig)
		}
		refused(t, nil, 0, bytes, api.ErrConfig)
		for _, cycles := range []int{-1, 11, -10, 12, math.MinInt, math.MaxInt, 1 << 32, 1<<32 + 1} {
			refused(t, []api.Shape{one}, cycles, bytes, api.ErrConfig)
			refused(t, []api.Shape{one, one}, cycles, bytes, api.ErrConfig)
		}
		for _, s := range []api.Shape{{}, {Sets: 0, Ways: 1}, {Sets: 3, Ways: 1}, {Sets: 32, Ways: 1}, {Sets: -1, Ways: 1}, {Sets: 1, Ways: 0}, {Sets: 1, Ways: 5}, {Sets: 1, Ways: -1}} {
			refused(t, []api.Shape{s}, 0, bytes, api.ErrConfig)
			refused(t, []api.Shape{s, one}, 0, bytes, api.ErrConfig)
			refused(t, []api.Shape{one, s}, 0, bytes, api.ErrConfig)
		}
	}
	for _, bytes := range []int{1, 7, 8, 15, 17, 31, 4080 + 1, 4095, 4097, 4112, 8192} {
		refused(t, []api.Shape{one}, 0, bytes, api.ErrImage)
		refused(t, []api.Shape{one, one}, 10, bytes, api.ErrImage)
	}
	if api.MaxCores != 2 || api.MaxBusCycles != 10 {
		t.Errorf("B1: MaxCores %d, MaxBusCycles %d", api.MaxCores, api.MaxBusCycles)
	}
}

func TestNew(t *testing.T) {
	for _, shapes := range [][]api.Shape{{one}, {one, one}, {{Sets: 16, Ways: 4}}, {{Sets: 1, Ways: 4}, {Sets: 16, Ways: 1}}} {
		for _, cycles := range []int{0, 1, 10} {
			for _, bytes := range []int{0, 16, 32, 4080, 4096} {
				b := made(t, cycles, bytes, shapes...)
				data(t, b, row(bytes))
				quiet(t, b, 3)
				for core := range shapes {
					busy(t, b, make([]bool, core+1)...)
					for _, addr := range []uint32{at, at + 16, at + 4095} {
						states(t, b, addr, make([]api.State, core+1)...)
						noRead(t, b, core, addr, 1)
						noWrite(t, b, core, addr, 1)
					}
				}
				data(t, b, row(bytes))
			}
		}
	}
	if b, err := bus.New([]api.Shape{one}, 0, nil); b == nil || err != nil || len(b.Data()) != 0 {
		t.Errorf("B1: New without data: %v", err)
	}
}

// Each core's cache has the shape that stands at its place.
func TestShapesOfCores(t *testing.T) {
	b := made(t, 0, 128, api.Shape{Sets: 1, Ways: 2}, api.Shape{Sets: 4, Ways: 1})
	for core, lines := range []uint32{2, 4} {
		for k := range lines {
			brings(t, b, core, at+16*k, read)
		}
		for k := range lines {
			if b.State(core, at+16*k) == api.Invalid {
				t.Errorf("B1: core %d has no line %d", core, k)
			}
		}
	}
	asks(t, b, 0, at+96, read, nil)
	ticks(t, b, snoop(0, at, 1, 0), snoop(0, at+96, 0, 2))
	asks(t, b, 1, at+80, read, nil)
	ticks(t, b, snoop(1, at+16, 1, 0), snoop(1, at+80, 0, 2))
}

// What was handed in is neither kept nor written.
func TestWhatWasHandedIn(t *testing.T) {
	shapes, handed := []api.Shape{{Sets: 2, Ways: 1}, one}, row(32)
	b, err := bus.New(shapes, 0, handed)
	if err != nil {
		t.Fatal(err)
	}
	shapes[0], shapes[1] = api.Shape{Sets: 1, Ways: 1}, api.Shape{Sets: 4, Ways: 4}
	for i := range handed {
		handed[i] = 0xee
	}
	data(t, b, row(32))
	brings(t, b, 0, at, write)
	brings(t, b, 0, at+16, write)
	reads(t, b, 0, at+4, 4, 0x07060504)
	writes(t, b, 0, at, 4, 0)
	brings(t, b, 1, at, read)
	brings(t, b, 1, at+16, read)
	states(t, b, at, api.Shared, api.Invalid)
	for i := range handed {
		if handed[i] != 0xee {
			t.Fatalf("P2: byte %d of what was handed in is %x", i, handed[i])
		}
	}
}

// What comes out is the caller's.
func TestWhatComesOut(t *testing.T) {
	b := two(t)
	brings(t, b, 0, at, write)
	writes(t, b, 0, at, 1, 0x77)
	want := row(64)
	want[0] = 0x77
	for range 2 {
		got := b.Data()
		data(t, b, want)
		for i := range got {
			got[i] = 0xee
		}
		data(t, b, want)
		reads(t, b, 0, at, 4, 0x03020177)
	}
	asks(t, b, 1, at, write, nil)
	told := b.Tick()
	for i := range told {
		told[i] = snoop(7, 7, 7, 7)
	}
	told = append(told, snoop(8, 8, 8, 8))
	asks(t, b, 0, at, read, nil)
	ticks(t, b, snoop(1, at, 2, 1), snoop(0, at, 0, 1))
	if told[0] != snoop(7, 7, 7, 7) {
		t.Errorf("P2: a Tick wrote what another told: %x", told)
	}
	data(t, b, want)
}
