package predict_test

import (
	"math/big"
	"math/rand"
	"slices"
	"testing"

	"oocore/api"
)

// model is a second reading of the chapter, in another shape than the program: a history of letters, counters and places in maps, sums that are big numbers.
type model struct {
	g        api.Guessing
	went     string // t or n, the last one last; as many as there are bits
	counters map[uint64]int
	targets  map[uint64][2]uint32
	words    map[int]uint32
	top      int
}

func newModel(g api.Guessing) *model {
	m := &model{g: g, counters: map[uint64]int{}, targets: map[uint64][2]uint32{}, words: map[int]uint32{}}
	m.setHistory(0)
	return m
}

func (m *model) setHistory(n int) {
	m.went = ""
	for k := m.g.History - 1; k >= 0; k-- {
		m.went += string("nt"[n>>k&1])
	}
}

func (m *model) history() int {
	n := 0
	for _, c := range m.went {
		n *= 2
		if c == 't' {
			n++
		}
	}
	return n
}

func word(pc uint32, more int) uint32 {
	sum := new(big.Int).Add(big.NewInt(int64(pc)), big.NewInt(int64(more)))
	return uint32(sum.Mod(sum, big.NewInt(1<<32)).Uint64())
}

// counterAt is where a branch's counter stands, with a history.
func (m *model) counterAt(pc uint32, history int) uint64 {
	n := uint64(pc) / 4
	if m.g.Kind == 3 {
		n ^= uint64(history)
	}
	return n % (1 << m.g.Bits)
}

func (m *model) counter(at uint64) int {
	if n, ok := m.counters[at]; ok {
		return n
	}
	return 1
}

func sortOf(i api.Instr) string {
	switch {
	case slices.Contains(branches, i.Op):
		return "branch"
	case i.Op == api.Jal && i.Rd == 1:
		return "jal call"
	case i.Op == api.Jal:
		return "jal"
	case i.Op == api.Jalr && i.Rd == 0 && i.Rs1 == 1:
		return "return"
	case i.Op == api.Jalr && i.Rd == 1:
		return "jalr call"
	case i.Op == api.Jalr:
		return "jalr"
	}
	return "other"
}

func (m *model) mark() api.Mark {
	return api.Mark{History: m.history(), Top: m.top, Value: m.words[m.top]}
}

func (m *model) guess(pc uint32, i api.Instr) (uint32, api.Mark) {
	ahead, next, taken := m.mark(), word(pc, 4), false
	switch sortOf(i) {
	case "branch":
		switch m.g.Kind {
		case 1:
			taken = i.Imm < 0
		case 2, 3:
			taken = m.counter(m.counterAt(pc, m.history())) > 1
		}
		if taken {
			next = word(pc, i.Imm)
		}
	case "jal", "jal call":
		next = word(pc, i.Imm)
	case "return":
		next = m.words[m.top]
	case "jalr", "jalr call":
		if at, ok := m.targets[uint64(pc)/4%(1<<m.g.Targets)]; ok && at[0] == pc {
			next = at[1]
		}
	}
	m.goesOn(pc, i, taken)
	return next, ahead
}

func (m *model) goesOn(pc uint32, i api.Instr, taken bool) {
	switch sortOf(i) {
	case "branch":
		letter := "n"
		if taken {
			letter = "t"
		}
		m.went = (m.went + letter)[1:]
	case "return":
		if m.top--; m.top < 0 {
			m.top = m.g.Returns - 1
		}
	case "jal call", "jalr call":
		if m.top++; m.top == m.g.Returns {
			m.top = 0
		}
		m.words[m.top] = word(pc, 4)
	}
}

func (m *model) isMark(k api.Mark) bool {
	return k.History >= 0 && k.History < 1<<m.g.History && k.Top >= 0 && k.Top < m.g.Returns
}

func (m *model) restore(k api.Mark, pc uint32, i api.Instr, taken bool) {
	if m.isMark(k) {
		m.setHistory(k.History)
		m.top = k.Top
		m.words[k.Top] = k.Value
		m.goesOn(pc, i, taken)
	}
}

func (m *model) learn(k api.Mark, pc uint32, i api.Instr, taken bool, target uint32) {
	if !m.isMark(k) {
		return
	}
	switch sortOf(i) {
	case "branch":
		at := m.counterAt(pc, k.History)
		if n := m.counter(at); taken {
			m.counters[at] = min(n+1, 3)
		} else {
			m.counters[at] = max(n-1, 0)
		}
	case "jalr", "jalr call":
		m.targets[uint64(pc)/4%(1<<m.g.Targets)] = [2]uint32{pc, target}
	}
}

func anyInstr(r *rand.Rand) api.Instr {
	i := api.Instr{Op: api.Op(r.Intn(70) - 1), Rd: r.Intn(4) % 3, Rs1: r.Intn(3), Rs2: r.Intn(3), Imm: 2 * (r.Intn(64) - 32)}
	switch r.Intn(8) {
	case 0, 1:
		i.Op = branches[r.Intn(len(branches))]
	case 2:
		i.Op = api.Jal
	case 3, 4:
		i.Op = api.Jalr
	case 5:
		i = back()
	}
	if r.Intn(16) == 0 {
		i.Imm = int(r.Uint64())
	}
	return i
}

func anyPlace(r *rand.Rand) uint32 {
	switch r.Intn(8) {
	case 0:
		return r.Uint32()
	case 1:
		return -uint32(r.Intn(12))
	}
	return uint32(r.Intn(12)) * 4 << r.Intn(3)
}

func anyMark(r *rand.Rand, seen []api.Mark, g api.Guessing) api.Mark {
	if len(seen) > 0 && r.Intn(4) > 0 {
		return seen[len(seen)-1-r.Intn(min(len(seen), 6))]
	}
	return api.Mark{History: r.Intn(1<<g.History+2) - 1, Top: r.Intn(g.Returns+2) - 1, Value: r.Uint32()}
}

func anyGuessing(r *rand.Rand) api.Guessing {
	g := api.Guessing{Kind: r.Intn(4), Bits: 1 + r.Intn(10), Targets: r.Intn(9), Returns: 1 + r.Intn(16)}
	if r.Intn(2) == 0 {
		g.Bits, g.Targets, g.Returns = 1+r.Intn(3), r.Intn(3), 1+r.Intn(3)
	}
	g.History = r.Intn(g.Bits + 1)
	return g
}

func script(t *testing.T, r *rand.Rand, steps int) {
	t.Helper()
	g := anyGuessing(r)
	p, m := made(t, g), newModel(g)
	var seen []api.Mark
	for step := range steps {
		pc, i, taken := anyPlace(r), anyInstr(r), r.Intn(2) == 0
		switch r.Intn(5) {
		case 0:
			k := anyMark(r, seen, g)
			p.Restore(k, pc, i, taken)
			m.restore(k, pc, i, taken)
		case 1, 2:
			k, target := anyMark(r, seen, g), r.Uint32()
			p.Learn(k, pc, i, taken, target)
			m.learn(k, pc, i, taken, target)
		default:
			next, mark := p.Guess(pc, i)
			want, ahead := m.guess(pc, i)
			if next != want || mark != ahead {
				t.Fatalf("D1 to D5: %+v, step %d: Guess(%#x, %+v) = %#x, %+v, want %#x, %+v", g, step, pc, i, next, mark, want, ahead)
			}
			seen = append(seen, mark)
		}
	}
}

func TestScripts(t *testing.T) {
	r := rand.New(rand.NewSource(11))
	for range 6000 {
		script(t, r, 120)
	}
}
