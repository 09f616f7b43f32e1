package window_test

import (
	"errors"
	"math/rand"
	"slices"
	"testing"

	"oocore/api"
	"oocore/window"
)

type kept struct {
	e  api.Entry
	is string
}

// model is a second reading of the chapter, in another shape than the program: it forgets no instruction, and a number is a place among all that ever came.
type model struct {
	size, registers int
	ever            []kept
	coming          map[int]bool
}

func newModel(size, registers int) *model {
	return &model{size: size, registers: registers, coming: map[int]bool{}}
}

func (m *model) in() []int {
	var list []int
	for n, x := range m.ever {
		if x.is != "gone" {
			list = append(list, n)
		}
	}
	return list
}

func (m *model) enter(e api.Entry) (int, error) {
	for _, p := range []int{e.Src1, e.Src2, e.Dest} {
		if p != -1 && (p < 0 || p > m.registers-1) {
			return 0, api.ErrRange
		}
	}
	if !slices.Contains(classes(), e.Class) {
		return 0, api.ErrRange
	}
	if len(m.in()) == m.size {
		return 0, api.ErrFull
	}
	m.ever = append(m.ever, kept{e, "waiting"})
	m.coming[e.Dest] = e.Dest != -1
	return len(m.ever) - 1, nil
}

func (m *model) wake(p int) error {
	if p < 0 || p > m.registers-1 {
		return api.ErrRange
	}
	delete(m.coming, p)
	return nil
}

func (m *model) begins(n int) bool {
	x := m.ever[n]
	return x.is == "waiting" && !m.coming[x.e.Src1] && !m.coming[x.e.Src2]
}

func (m *model) ready(c api.Class, most int) []int {
	var list []int
	for n, x := range m.ever {
		if x.e.Class == c && m.begins(n) {
			list = append(list, n)
		}
	}
	return list[:max(0, min(most, len(list)))]
}

func (m *model) turn(n int, from, to string) error {
	if n < 0 || n >= len(m.ever) || m.ever[n].is != from || from == "waiting" && !m.begins(n) {
		return api.ErrState
	}
	m.ever[n].is = to
	return nil
}

func (m *model) head() (int, bool, bool) {
	list := m.in()
	if len(list) == 0 {
		return 0, false, false
	}
	return list[0], m.ever[list[0]].is == "done", true
}

func (m *model) retire() (int, error) {
	n, done, _ := m.head()
	if !done {
		return 0, api.ErrState
	}
	m.ever[n].is = "gone"
	return n, nil
}

func (m *model) squash(after int) []int {
	var list []int
	for _, n := range m.in() {
		if n > after {
			m.ever[n].is = "gone"
			list = append([]int{n}, list...)
		}
	}
	return list
}

type pair struct {
	t *testing.T
	r *rand.Rand
	w *window.Window
	m *model
}

// number is most often that of one that is in.
func (p pair) number() int {
	if list := p.m.in(); len(list) > 0 && p.r.Intn(8) > 0 {
		return list[p.r.Intn(len(list))]
	}
	return p.r.Intn(len(p.m.ever)+3) - 2
}

// register is most often one of a few, so that instructions hang on each other.
func (p pair) register() int {
	switch p.r.Intn(40) {
	case 0:
		return p.r.Intn(p.m.registers+4) - 3
	case 1:
		return p.m.registers - 1
	default:
		return p.r.Intn(9) - 1
	}
}

func (p pair) class() api.Class {
	if p.r.Intn(20) == 0 {
		return api.Class(p.r.Intn(11) - 2)
	}
	return api.Class(p.r.Intn(3))
}

func (p pair) enter() {
	e := entry(p.class(), p.register(), p.register(), p.register())
	n, err := p.w.Enter(e)
	if number, want := p.m.enter(e); n != number || !errors.Is(err, want) {
		p.t.Fatalf("W2: Enter(%+v) = %d, %v, want %d, %v", e, n, err, number, want)
	}
}

func (p pair) wake() {
	r := p.register()
	if err, want := p.w.Wake(r), p.m.wake(r); !errors.Is(err, want) {
		p.t.Fatalf("W3: Wake(%d) = %v, want %v", r, err, want)
	}
}

func (p pair) turn() {
	n := p.number()
	var err, want error
	switch p.r.Intn(5) {
	case 0:
		err, want = p.w.Again(n), p.m.turn(n, "issued", "waiting")
	case 1, 2:
		err, want = p.w.Issue(n), p.m.turn(n, "waiting", "issued")
	default:
		err, want = p.w.Done(n), p.m.turn(n, "issued", "done")
	}
	if !errors.Is(err, want) {
		p.t.Fatalf("W4: number %d: %v, want %v", n, err, want)
	}
}

func (p pair) retire() {
	n, err := p.w.Retire()
	if number, want := p.m.retire(); n != number || !errors.Is(err, want) {
		p.t.Fatalf("W5: Retire() = %d, %v, want %d, %v", n, err, number, want)
	}
}

func (p pair) squash() {
	after := p.number()
	if got, want := p.w.Squash(after), p.m.squash(after); !slices.Equal(got, want) {
		p.t.Fatalf("W5: Squash(%d) = %v, want %v", after, got, want)
	}
}

func (p pair) agree() {
	p.t.Helper()
	for c := api.Class(-1); c < 9; c++ {
		most := p.r.Intn(9) - 1
		if got, want := p.w.Ready(c, most), p.m.ready(c, most); !slices.Equal(got, want) {
			p.t.Fatalf("W3: Ready(%d, %d) = %v, want %v", c, most, got, want)
		}
	}
	n, done, is := p.w.Head()
	if a, b, c := p.m.head(); n != a || done != b || is != c || p.w.Len() != len(p.m.in()) {
		p.t.Fatalf("W5: Head() = %d, %v, %v, want %d, %v, %v; Len() = %d, want %d", n, done, is, a, b, c, p.w.Len(), len(p.m.in()))
	}
}

func script(t *testing.T, r *rand.Rand, steps int) {
	t.Helper()
	size, registers := 2+r.Intn(63), 34+r.Intn(95)
	if r.Intn(2) == 0 {
		size = 2 + r.Intn(5)
	}
	p := pair{t, r, made(t, size, registers), newModel(size, registers)}
	often := 2 + r.Intn(5)
	for range steps {
		switch k := r.Intn(24); {
		case k < often:
			p.enter()
		case k < 10:
			p.wake()
		case k < 18:
			p.turn()
		case k < 23:
			p.retire()
		default:
			p.squash()
		}
		p.agree()
	}
}

func TestScripts(t *testing.T) {
	r := rand.New(rand.NewSource(19))
	for range 300 {
		script(t, r, 400)
	}
}
