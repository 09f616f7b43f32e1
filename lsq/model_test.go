package lsq_test

import (
	"errors"
	"math/rand"
	"slices"
	"testing"

	"oocore/api"
	"oocore/lsq"
)

type kept struct {
	number  int
	isStore bool
	bytes   []uint32 // the addresses, when it is placed
	data    []byte   // of a store, when it has a value: all four
	origin  map[uint32]*kept
	is      string // "on", "retired", "gone"
}

// fromMemory is where a byte of no store is of.
var fromMemory = &kept{number: -1, is: "gone"}

// model is a second reading of the chapter, in another shape than the program: bytes have addresses of their own, a load points to the stores of its bytes, and what is written is a store that is gone.
type model struct {
	size int
	in   []*kept
}

func (m *model) clean() {
	m.in = slices.DeleteFunc(m.in, func(x *kept) bool { return x.is == "gone" })
}

func (m *model) get(number int) *kept {
	for _, x := range m.in {
		if x.number == number && x.is == "on" {
			return x
		}
	}
	return nil
}

func (m *model) enter(number int, isStore bool) error {
	for _, x := range m.in {
		if x.number >= number {
			return api.ErrOrder
		}
	}
	if number < 0 {
		return api.ErrOrder
	}
	if len(m.in) == m.size {
		return api.ErrFull
	}
	m.in = append(m.in, &kept{number: number, isStore: isStore, is: "on"})
	return nil
}

func (m *model) address(number int, addr uint32, size int) (int, error) {
	x := m.get(number)
	if x == nil || x.bytes != nil {
		return -1, api.ErrState
	}
	if !slices.Contains(sizes, size) || uint64(addr)%uint64(size) != 0 {
		return -1, api.ErrRange
	}
	for i := range size {
		x.bytes = append(x.bytes, addr+uint32(i))
	}
	if !x.isStore {
		return -1, nil
	}
	for _, y := range m.in {
		for _, b := range x.bytes {
			from, has := y.origin[b]
			if has && y.number > number && (from.is == "gone" || from.number < number) {
				return y.number, nil
			}
		}
	}
	return -1, nil
}

func (m *model) value(number int, data uint32) error {
	x := m.get(number)
	if x == nil || !x.isStore || x.data != nil {
		return api.ErrState
	}
	x.data = []byte{byte(data), byte(data >> 8), byte(data >> 16), byte(data >> 24)}
	return nil
}

// origins lets the older stores write one after the other; is one of them not placed?
func (m *model) origins(x *kept) (map[uint32]*kept, bool) {
	at, unknown := map[uint32]*kept{}, false
	for _, b := range x.bytes {
		at[b] = fromMemory
	}
	for _, y := range m.in {
		if !y.isStore || y.number >= x.number {
			continue
		}
		unknown = unknown || y.bytes == nil
		for _, b := range y.bytes {
			if at[b] != nil {
				at[b] = y
			}
		}
	}
	return at, unknown
}

func (m *model) search(number int, isBold bool) (api.Found, error) {
	x := m.get(number)
	if x == nil || x.isStore || x.bytes == nil {
		return api.Found{}, api.ErrState
	}
	at, unknown := m.origins(x)
	f := api.Found{Wait: unknown && !isBold}
	for i, b := range x.bytes {
		from := at[b]
		switch {
		case from == fromMemory:
		case from.data == nil:
			f.Wait = true
		default:
			f.Mask += 1 << i
			f.Value += uint32(from.data[slices.Index(from.bytes, b)]) << (8 * i)
		}
	}
	if f.Wait {
		return api.Found{Wait: true}, nil
	}
	return f, nil
}

func (m *model) loaded(number int) error {
	f, err := m.search(number, true)
	if err != nil || f.Wait || m.get(number).origin != nil {
		return api.ErrState
	}
	m.get(number).origin, _ = m.origins(m.get(number))
	return nil
}

func (m *model) retire(number int) error {
	for _, x := range m.in {
		if x.is == "retired" {
			continue
		}
		if x.number != number {
			return api.ErrOrder
		}
		switch {
		case x.isStore && x.bytes != nil && x.data != nil:
			x.is = "retired"
		case !x.isStore && x.origin != nil:
			x.is = "gone"
		default:
			return api.ErrState
		}
		m.clean()
		return nil
	}
	return api.ErrOrder
}

func (m *model) oldest() (api.Written, bool) {
	if len(m.in) == 0 || m.in[0].is != "retired" {
		return api.Written{}, false
	}
	x := m.in[0]
	w := api.Written{Addr: x.bytes[0], Size: len(x.bytes)}
	for i := range x.bytes {
		w.Data += uint32(x.data[i]) << (8 * i)
	}
	return w, true
}

func (m *model) drain() error {
	if _, is := m.oldest(); !is {
		return api.ErrState
	}
	m.in[0].is = "gone"
	m.clean()
	return nil
}

func (m *model) spoil(line uint32) int {
	for _, x := range m.in {
		for b, from := range x.origin {
			if from.is == "gone" && b>>4 == line>>4 {
				return x.number
			}
		}
	}
	return -1
}

func (m *model) squash(after int) {
	for _, x := range m.in {
		if x.is == "on" && x.number > after {
			x.is = "gone"
		}
	}
	m.clean()
}

type pair struct {
	t    *testing.T
	r    *rand.Rand
	q    *lsq.Queue
	m    *model
	base uint32
}

// number is most often that of one that is in.
func (p pair) number() int {
	if n := len(p.m.in); n > 0 && p.r.Intn(10) > 0 {
		return p.m.in[p.r.Intn(n)].number
	}
	return p.r.Intn(60) - 2
}

// next is most often just above the youngest one's.
func (p pair) next() int {
	if n := len(p.m.in); n > 0 && p.r.Intn(12) > 0 {
		return p.m.in[n-1].number + 1 + p.r.Intn(4)/3*p.r.Intn(3)
	}
	return p.r.Intn(30) - 2
}

// addr is most often one of a few, so that bytes are of several stores.
func (p pair) addr() uint32 {
	if p.r.Intn(15) == 0 {
		return p.base ^ 1<<p.r.Intn(32)
	}
	return p.base + uint32(p.r.Intn(8))
}

func (p pair) same(what string, err, want error) {
	p.t.Helper()
	if !errors.Is(err, want) {
		p.t.Fatalf("%s: %v, want %v", what, err, want)
	}
}

func (p pair) place() {
	number, addr, size := p.number(), p.addr(), sizes[p.r.Intn(3)]
	if p.r.Intn(20) == 0 {
		size = p.r.Intn(11) - 2
	} else if p.r.Intn(5) > 0 {
		addr -= addr % uint32(size)
	}
	n, err := p.q.Address(number, addr, size)
	early, want := p.m.address(number, addr, size)
	if p.same("Q2: Address", err, want); n != early {
		p.t.Fatalf("Q2: Address(%d, %x, %d) = %d, want %d", number, addr, size, n, early)
	}
}

func (p pair) step(k int) {
	switch number := p.number(); {
	case k < 5:
		n, isStore := p.next(), p.r.Intn(2) == 0
		p.same("Q1: Enter", p.q.Enter(n, isStore), p.m.enter(n, isStore))
	case k < 12:
		p.place()
	case k < 17:
		data := p.r.Uint32()
		p.same("Q3: Value", p.q.Value(number, data), p.m.value(number, data))
	case k < 22:
		p.same("Q4: Loaded", p.q.Loaded(number), p.m.loaded(number))
	case k < 27:
		if len(p.m.in) > 0 && p.r.Intn(4) > 0 {
			number = p.m.in[0].number
		}
		p.same("Q5: Retire", p.q.Retire(number), p.m.retire(number))
	case k < 29:
		p.same("Q5: Drain", p.q.Drain(), p.m.drain())
	default:
		p.q.Squash(number)
		p.m.squash(number)
	}
}

func (p pair) agree() {
	p.t.Helper()
	numbers := []int{-1, p.number()}
	for _, x := range p.m.in {
		numbers = append(numbers, x.number)
	}
	for _, n := range numbers {
		for _, isBold := range []bool{false, true} {
			f, err := p.q.Search(n, isBold)
			found, want := p.m.search(n, isBold)
			if p.same("Q3: Search", err, want); f != found {
				p.t.Fatalf("Q3: Search(%d, %v) = %+v, want %+v", n, isBold, f, found)
			}
		}
	}
	w, is := p.q.Oldest()
	if written, want := p.m.oldest(); w != written || is != want {
		p.t.Fatalf("Q5: Oldest() = %+v, %v, want %+v, %v", w, is, written, want)
	}
	for _, line := range []uint32{p.base, p.base + 8, p.addr()} {
		if n, want := p.q.Spoil(line), p.m.spoil(line); n != want {
			p.t.Fatalf("Q6: Spoil(%x) = %d, want %d", line, n, want)
		}
	}
	if p.q.Len() != len(p.m.in) {
		p.t.Fatalf("Q1: Len() = %d, want %d", p.q.Len(), len(p.m.in))
	}
}

func script(t *testing.T, r *rand.Rand, steps int) {
	t.Helper()
	size := 1 + r.Intn(32)
	if r.Intn(2) == 0 {
		size = 1 + r.Intn(6)
	}
	base := []uint32{0, 8, 0x10000, 0x1000c, 0xfffffff8}[r.Intn(5)]
	p := pair{t, r, made(t, size), &model{size: size}, base}
	often := 29 + r.Intn(2)
	for range steps {
		p.step(r.Intn(often))
		p.agree()
	}
}

func TestScripts(t *testing.T) {
	r := rand.New(rand.NewSource(29))
	for range 400 {
		script(t, r, 400)
	}
}
