package bus_test

import (
	"errors"
	"math/rand"
	"slices"
	"testing"

	"oocore/api"
	"oocore/bus"
)

type copyOf struct {
	core  int
	line  uint32
	state api.State
	bytes []byte
	used  int
}

type wish struct {
	line    uint32
	toWrite bool
}

// model is a second reading of both chapters, in another shape than the program, and without its caches: all copies of lines stand in one list, with the time at which they were used.
type model struct {
	shapes              []api.Shape
	cycles              int
	memory              []byte
	copies              []*copyOf
	wishes              [2]*wish
	time, now           int
	has, begun, hadLast int // the core whose transaction goes on (-1: none), since when
}

func newModel(shapes []api.Shape, cycles int, data []byte) *model {
	return &model{shapes: shapes, cycles: cycles, memory: slices.Clone(data), has: -1, hadLast: len(shapes) - 1}
}

func (m *model) get(core int, addr uint32) *copyOf {
	for _, c := range m.copies {
		if c.core == core && c.line == addr>>4 {
			return c
		}
	}
	return &copyOf{}
}

func (m *model) isThere(core int, addr uint32) bool {
	return core >= 0 && core < len(m.shapes) && int64(addr) >= int64(at) && int64(addr) < int64(at)+int64(len(m.memory))
}

func (m *model) state(core int, addr uint32) api.State {
	if !m.isThere(core, addr) {
		return api.Invalid
	}
	return m.get(core, addr).state
}

func (m *model) use(c *copyOf) {
	m.time++
	c.used = m.time
}

func (m *model) bytes(core int, addr uint32, size int) []byte {
	if !m.isThere(core, addr) || m.state(core, addr) == api.Invalid || !slices.Contains(sizes, size) || int(addr)%size != 0 {
		return nil
	}
	return m.get(core, addr).bytes[addr&15:][:size]
}

func (m *model) read(core int, addr uint32, size int) (uint32, bool) {
	v, list := uint32(0), m.bytes(core, addr, size)
	if list == nil {
		return 0, false
	}
	for i, x := range list {
		v += uint32(x) << (8 * i)
	}
	m.use(m.get(core, addr))
	return v, true
}

func (m *model) write(core int, addr uint32, size int, data uint32) bool {
	list := m.bytes(core, addr, size)
	if list == nil || m.state(core, addr) == api.Shared {
		return false
	}
	for i := range list {
		list[i] = byte(data)
		data /= 256
	}
	m.get(core, addr).state = api.Modified
	m.use(m.get(core, addr))
	return true
}

func (m *model) ask(core int, addr uint32, toWrite bool) error {
	if !m.isThere(core, addr) {
		return api.ErrRange
	}
	s := m.state(core, addr)
	if m.wishes[core] != nil || s == api.Modified || s == api.Exclusive || s == api.Shared && !toWrite {
		return api.ErrState
	}
	m.wishes[core] = &wish{addr >> 4, toWrite}
	return nil
}

func (m *model) data() []byte {
	out := slices.Clone(m.memory)
	for _, c := range m.copies {
		if c.state == api.Modified {
			copy(out[c.line<<4-at:], c.bytes)
		}
	}
	return out
}

// goes takes a copy away, and gives memory its bytes.
func (m *model) goes(c *copyOf) {
	m.save(c)
	m.copies = slices.DeleteFunc(m.copies, func(x *copyOf) bool { return x == c })
}

func (m *model) save(c *copyOf) {
	if c.state == api.Modified {
		copy(m.memory[c.line<<4-at:], c.bytes)
	}
}

func (m *model) tick() []api.Snoop {
	m.now++
	if m.has < 0 {
		for _, core := range [][]int{{1, 0}, {0, 1}}[m.hadLast] {
			if m.has < 0 && m.wishes[core] != nil {
				m.has, m.begun = core, m.now
			}
		}
	}
	if m.has < 0 || m.now-m.begun < m.cycles {
		return nil
	}
	core, w := m.has, m.wishes[m.has]
	m.has, m.hadLast, m.wishes[core] = -1, core, nil
	return m.transact(core, w.line, w.toWrite)
}

func (m *model) transact(core int, line uint32, toWrite bool) []api.Snoop {
	var told []api.Snoop
	tell := func(c *copyOf, to api.State) {
		told = append(told, snoop(c.core, c.line<<4, c.state, to))
	}
	then, before := api.Exclusive, api.Invalid
	for _, c := range slices.Clone(m.copies) {
		switch {
		case c.line != line:
		case c.core == core:
			before = c.state
			m.goes(c)
		case toWrite:
			tell(c, api.Invalid)
			m.goes(c)
		default:
			then = api.Shared
			if m.save(c); c.state != api.Shared {
				tell(c, api.Shared)
			}
			c.state = api.Shared
		}
	}
	if c := m.tooMany(core, line); c != nil {
		tell(c, api.Invalid)
		m.goes(c)
	}
	fresh := &copyOf{core: core, line: line, state: then, bytes: slices.Clone(m.memory[line<<4-at:][:16])}
	m.use(fresh)
	m.copies = append(m.copies, fresh)
	return append(told, snoop(core, line<<4, before, then))
}

// tooMany is the copy that has to leave for a line, if one has to.
func (m *model) tooMany(core int, line uint32) *copyOf {
	sets := uint32(m.shapes[core].Sets)
	var set []*copyOf
	for _, c := range m.copies {
		if c.core == core && c.line%sets == line%sets {
			set = append(set, c)
		}
	}
	if len(set) < m.shapes[core].Ways {
		return nil
	}
	return slices.MinFunc(set, func(a, b *copyOf) int { return a.used - b.used })
}

type pair struct {
	t *testing.T
	r *rand.Rand
	b *bus.Bus
	m *model
}

// core is most often one that there is.
func (p pair) core() int {
	if p.r.Intn(40) == 0 {
		return p.r.Intn(5) - 2
	}
	return p.r.Intn(len(p.m.shapes))
}

// addr is most often one of the data.
func (p pair) addr() uint32 {
	if p.r.Intn(40) == 0 {
		return at ^ 1<<p.r.Intn(32)
	}
	return at + uint32(p.r.Intn(len(p.m.memory)+1))
}

func (p pair) part() (uint32, int) {
	addr, size := p.addr(), sizes[p.r.Intn(3)]
	if p.r.Intn(20) == 0 {
		size = p.r.Intn(11) - 2
	} else if p.r.Intn(8) > 0 {
		addr &^= uint32(size - 1)
	}
	return addr, size
}

func (p pair) step() {
	p.t.Helper()
	core := p.core()
	addr, size := p.part()
	switch k := p.r.Intn(12); {
	case k < 3:
		toWrite := p.r.Intn(2) == 0
		if err, want := p.b.Ask(core, addr, toWrite), p.m.ask(core, addr, toWrite); !errors.Is(err, want) {
			p.t.Fatalf("B3: Ask(%d, %x, %v) = %v, want %v", core, addr, toWrite, err, want)
		}
	case k < 6:
		if got, want := p.b.Tick(), p.m.tick(); !slices.Equal(got, want) {
			p.t.Fatalf("B4: Tick() = %x, want %x", got, want)
		}
	case k < 9:
		data := p.r.Uint32()
		if ok, may := p.b.Write(core, addr, size, data), p.m.write(core, addr, size, data); ok != may {
			p.t.Fatalf("B2: Write(%d, %x, %d) = %v, want %v", core, addr, size, ok, may)
		}
	default:
		v, ok := p.b.Read(core, addr, size)
		if want, may := p.m.read(core, addr, size); v != want || ok != may {
			p.t.Fatalf("B2: Read(%d, %x, %d) = %x, %v, want %x, %v", core, addr, size, v, ok, want, may)
		}
	}
}

func (p pair) agree() {
	p.t.Helper()
	for core := range p.m.shapes {
		if got, want := p.b.Busy(core), p.m.wishes[core] != nil; got != want {
			p.t.Fatalf("B3: Busy(%d) = %v", core, got)
		}
		for n := range len(p.m.memory) / 16 {
			addr := at + uint32(16*n+p.r.Intn(16))
			if got, want := p.b.State(core, addr), p.m.state(core, addr); got != want {
				p.t.Fatalf("B2: State(%d, %x) = %d, want %d", core, addr, got, want)
			}
		}
	}
	if got, want := p.b.Data(), p.m.data(); !slices.Equal(got, want) {
		p.t.Fatalf("B5: Data() = %x, want %x", got, want)
	}
}

func script(t *testing.T, r *rand.Rand, steps int) {
	t.Helper()
	var shapes []api.Shape
	for range 1 + min(r.Intn(5), 1) {
		shapes = append(shapes, api.Shape{Sets: 1 << (r.Intn(5) * r.Intn(2)), Ways: 1 + r.Intn(4)})
	}
	cycles := []int{0, 0, 1, 2, 5, 10}[r.Intn(6)]
	b := made(t, cycles, 16*r.Intn(20), shapes...)
	p := pair{t, r, b, newModel(shapes, cycles, b.Data())}
	for range steps {
		p.step()
		p.agree()
	}
}

func TestScripts(t *testing.T) {
	r := rand.New(rand.NewSource(41))
	for range 300 {
		script(t, r, 400)
	}
}
