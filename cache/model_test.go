package cache_test

import (
	"errors"
	"math/rand"
	"slices"
	"testing"

	"oocore/api"
	"oocore/cache"
)

// model is a second reading of the chapter, in another shape than the program: bytes stand by their addresses, and each line has the time at which it was used.
type model struct {
	sets, ways uint32
	time       int
	state      map[uint32]api.State // by the line's number
	used       map[uint32]int
	bytes      map[uint32]byte
}

func newModel(sets, ways int) *model {
	return &model{sets: uint32(sets), ways: uint32(ways), state: map[uint32]api.State{}, used: map[uint32]int{}, bytes: map[uint32]byte{}}
}

func (m *model) use(n uint32) {
	m.time++
	m.used[n] = m.time
}

func (m *model) line(n uint32) api.Line {
	l := api.Line{Addr: n << 4, State: m.state[n]}
	for i := range l.Bytes {
		l.Bytes[i] = m.bytes[n<<4+uint32(i)]
	}
	return l
}

func (m *model) may(addr uint32, size int) bool {
	return slices.Contains(sizes, size) && int64(addr)%int64(size) == 0 && m.state[addr>>4] != api.Invalid
}

func (m *model) read(addr uint32, size int) (uint32, bool) {
	if !m.may(addr, size) {
		return 0, false
	}
	m.use(addr >> 4)
	v := uint32(0)
	for i := range size {
		v += uint32(m.bytes[addr+uint32(i)]) << (8 * i)
	}
	return v, true
}

func (m *model) write(addr uint32, size int, data uint32) bool {
	if !m.may(addr, size) || m.state[addr>>4] == api.Shared {
		return false
	}
	m.use(addr >> 4)
	m.state[addr>>4] = api.Modified
	for i := range size {
		m.bytes[addr+uint32(i)] = byte(data)
		data /= 256
	}
	return true
}

// crowd is the numbers of the lines of a set that are there, the one that was used longest ago first.
func (m *model) crowd(set uint32) []uint32 {
	var ns []uint32
	for n, s := range m.state {
		if s != api.Invalid && n%m.sets == set {
			ns = append(ns, n)
		}
	}
	slices.SortFunc(ns, func(a, b uint32) int { return m.used[a] - m.used[b] })
	return ns
}

func (m *model) fill(addr uint32, b bytes, s api.State) (api.Line, bool, error) {
	n := addr >> 4
	if addr&15 != 0 || !slices.Contains(states, s) {
		return api.Line{}, false, api.ErrRange
	}
	if m.state[n] != api.Invalid {
		return api.Line{}, false, api.ErrState
	}
	var out api.Line
	crowd := m.crowd(n % m.sets)
	isFull := len(crowd) == int(m.ways)
	if isFull {
		out = m.line(crowd[0])
		m.state[crowd[0]] = api.Invalid
	}
	for i, x := range b {
		m.bytes[addr+uint32(i)] = x
	}
	m.state[n] = s
	m.use(n)
	return out, isFull, nil
}

func (m *model) lower(addr uint32, s api.State) (api.Line, error) {
	n := addr >> 4
	if addr&15 != 0 || s != api.Invalid && s != api.Shared && s != api.Exclusive {
		return api.Line{}, api.ErrRange
	}
	if m.state[n] <= s {
		return api.Line{}, api.ErrState
	}
	was := m.line(n)
	m.state[n] = s
	return was, nil
}

type pair struct {
	t     *testing.T
	r     *rand.Rand
	c     *cache.Cache
	m     *model
	base  uint32
	lines int
}

func (p pair) addr() uint32 {
	if p.r.Intn(30) == 0 {
		return p.base ^ 1<<p.r.Intn(32)
	}
	return p.base + uint32(16*p.r.Intn(p.lines)+p.r.Intn(16))
}

// start is most often the beginning of a line.
func (p pair) start() uint32 {
	addr := p.addr()
	if p.r.Intn(20) > 0 {
		addr &^= 15
	}
	return addr
}

// part is most often one that may stand.
func (p pair) part() (uint32, int) {
	addr, size := p.addr(), sizes[p.r.Intn(3)]
	if p.r.Intn(20) == 0 {
		size = p.r.Intn(11) - 2
	} else if p.r.Intn(8) > 0 {
		addr &^= uint32(size - 1)
	}
	return addr, size
}

func (p pair) step() {
	p.t.Helper()
	addr, size := p.part()
	s := api.State(p.r.Intn(6) - 1)
	switch k := p.r.Intn(10); {
	case k < 3:
		v, ok := p.c.Read(addr, size)
		if want, may := p.m.read(addr, size); v != want || ok != may {
			p.t.Fatalf("K2: Read(%x, %d) = %x, %v, want %x, %v", addr, size, v, ok, want, may)
		}
	case k < 6:
		data := p.r.Uint32()
		if ok, may := p.c.Write(addr, size, data), p.m.write(addr, size, data); ok != may {
			p.t.Fatalf("K2: Write(%x, %d) = %v, want %v", addr, size, ok, may)
		}
	case k < 9:
		at, b := p.start(), row(p.r.Intn(256))
		l, left, err := p.c.Fill(at, b, s)
		want, has, wrong := p.m.fill(at, b, s)
		if l != want || left != has || !errors.Is(err, wrong) {
			p.t.Fatalf("K3: Fill(%x, %d) = %x, %v, %v, want %x, %v, %v", at, s, l, left, err, want, has, wrong)
		}
	default:
		at := p.start()
		l, err := p.c.Lower(at, s)
		if want, wrong := p.m.lower(at, s); l != want || !errors.Is(err, wrong) {
			p.t.Fatalf("K4: Lower(%x, %d) = %x, %v, want %x, %v", at, s, l, err, want, wrong)
		}
	}
}

func script(t *testing.T, r *rand.Rand, steps int) {
	t.Helper()
	sets, ways := 1<<r.Intn(5), 1+r.Intn(4)
	base := []uint32{0, 0x10000, 0x7fffffe0, 0xffffff00}[r.Intn(4)]
	p := pair{t, r, made(t, sets, ways), newModel(sets, ways), base, 1 + r.Intn(sets*ways+sets+2)}
	for range steps {
		p.step()
		addr := p.addr()
		if got, want := p.c.State(addr), p.m.state[addr>>4]; got != want {
			t.Fatalf("K1: State(%x) = %d, want %d", addr, got, want)
		}
	}
}

func TestScripts(t *testing.T) {
	r := rand.New(rand.NewSource(37))
	for range 400 {
		script(t, r, 400)
	}
}
