package rules

import (
	"math/rand"
	"slices"
	"testing"

	"oocore/api"
	"oocore/bus"
	"oocore/cache"
	"oocore/plain"
)

func TestCachesOfAnyNumbers(t *testing.T) {
	for _, sets := range append([]int{2, 16}, extremes...) {
		for _, ways := range append([]int{2, 4}, extremes...) {
			c, err := cache.New(api.Shape{Sets: sets, Ways: ways})
			if (c == nil) != (plain.Told(err) == api.ErrConfig) || (c == nil) != (err != nil) {
				t.Errorf("P1, P3: New(%d, %d) = %v, %v", sets, ways, c != nil, err)
			}
		}
	}
}

func TestLinesOfAnyNumbers(t *testing.T) {
	c, err := cache.New(api.Shape{Sets: 2, Ways: 2})
	if err != nil {
		t.Fatal(err)
	}
	numbers := append([]int{2, 3, 4, 16, 0xfffffff0}, extremes...)
	for _, a := range numbers {
		for _, b := range numbers {
			addr := uint32(a)
			l, left, err := c.Fill(addr, [api.LineSize]byte{1}, api.State(b))
			if among(t, "Fill", err, api.ErrRange, api.ErrState); (err != nil || !left) && (l != (api.Line{}) || left) {
				t.Errorf("P1: Fill(%x, %d) = %v, %v, %v", addr, b, l, left, err)
			}
			if s := c.State(addr); s < api.Invalid || s > api.Modified {
				t.Errorf("P1: State(%x) = %d", addr, s)
			}
			if v, ok := c.Read(addr, b); !ok && v != 0 {
				t.Errorf("P1: Read(%x, %d) = %x, false", addr, b, v)
			}
			c.Write(addr, b, uint32(b))
			l, err = c.Lower(uint32(b), api.State(a))
			if among(t, "Lower", err, api.ErrRange, api.ErrState); err != nil && l != (api.Line{}) {
				t.Errorf("P1: Lower(%x, %d) = %v, %v", b, a, l, err)
			}
		}
	}
}

func TestBusesOfAnyNumbers(t *testing.T) {
	for _, n := range extremes {
		for _, bytes := range []int{0, 16, 17, 4096, 4112} {
			for _, shapes := range [][]api.Shape{nil, {{Sets: 1, Ways: 1}}, {{Sets: n, Ways: 1}, {Sets: 1, Ways: n}}} {
				b, err := bus.New(shapes, n, make([]byte, bytes))
				if among(t, "New", err, api.ErrConfig, api.ErrImage); (b == nil) != (err != nil) {
					t.Errorf("P1: New(%v, %d, %d bytes) = %v, %v", shapes, n, bytes, b != nil, err)
				}
			}
		}
	}
}

func TestAsksOfAnyNumbers(t *testing.T) {
	b, err := bus.New([]api.Shape{{Sets: 1, Ways: 1}, {Sets: 2, Ways: 2}}, 1, make([]byte, 64))
	if err != nil {
		t.Fatal(err)
	}
	numbers := append([]int{2, 4, api.DataBase - 1, api.DataBase, api.DataBase + 17, api.DataBase + 63, api.DataBase + 64}, extremes...)
	for _, core := range numbers {
		for _, a := range numbers {
			addr := uint32(a)
			among(t, "Ask", b.Ask(core, addr, a%2 == 0), api.ErrRange, api.ErrState)
			for _, size := range numbers {
				if v, ok := b.Read(core, addr, size); !ok && v != 0 {
					t.Errorf("P1: Read(%d, %x, %d) = %x, false", core, addr, size, v)
				}
				b.Write(core, addr, size, addr)
			}
			if s := b.State(core, addr); s < api.Invalid || s > api.Modified || s != api.Invalid && core != 0 && core != 1 {
				t.Errorf("P1: State(%d, %x) = %d", core, addr, s)
			}
			b.Busy(core)
			b.Tick()
			if n := len(b.Data()); n != 64 {
				t.Errorf("P1: %d bytes of data", n)
			}
		}
	}
}

// The same calls on two buses are answered alike, whatever a third one is told in between, and whatever becomes of the lists that were told.
func TestBusesAreApart(t *testing.T) {
	r := rand.New(rand.NewSource(43))
	shapes := []api.Shape{{Sets: 1, Ways: 2}, {Sets: 2, Ways: 1}}
	data := make([]byte, 96)
	var buses [3]*bus.Bus
	for k := range buses {
		buses[k], _ = bus.New(shapes, 1, data)
	}
	for range 5000 {
		seed := r.Int63()
		first := ride(buses[0], rand.New(rand.NewSource(seed)))
		ride(buses[2], r)
		if second := ride(buses[1], rand.New(rand.NewSource(seed))); !slices.Equal(first, second) {
			t.Fatalf("P2: %v, and of another bus %v", first, second)
		}
	}
	if shapes[0] != (api.Shape{Sets: 1, Ways: 2}) || !slices.Equal(data, make([]byte, 96)) {
		t.Error("P2: what was handed in is written")
	}
}

// ride takes a bus some steps on; all that it answered, in one list.
func ride(b *bus.Bus, r *rand.Rand) []int {
	var told []int
	for range 4 {
		core, addr := r.Intn(2), api.DataBase+uint32(r.Intn(96))
		told = append(told, int(plain.Told(b.Ask(core, addr, r.Intn(2) == 0))))
		list := b.Tick()
		for k, s := range list {
			told = append(told, s.Core, int(s.Addr), int(s.From), int(s.To))
			list[k] = api.Snoop{Core: -7}
		}
		b.Write(core, addr, 1, r.Uint32())
		v, _ := b.Read(1-core, addr, 1)
		told = append(told, int(v), int(b.State(core, addr)))
	}
	data := b.Data()
	for k, x := range data {
		told = append(told, int(x))
		data[k] = 0xee
	}
	return told
}

// The same lines in two caches are apart.
func TestCachesAreApart(t *testing.T) {
	shape := api.Shape{Sets: 1, Ways: 1}
	a, _ := cache.New(shape)
	b, _ := cache.New(shape)
	bytes := [api.LineSize]byte{1, 2, 3}
	a.Fill(0, bytes, api.Exclusive)
	if b.State(0) != api.Invalid {
		t.Error("P2: a line is there that another cache was given")
	}
	b.Fill(0, bytes, api.Exclusive)
	a.Write(0, 1, 9)
	if v, _ := b.Read(0, 4); v != 0x00030201 || b.State(0) != api.Exclusive {
		t.Errorf("P2: %x, behind a write in another cache", v)
	}
}
