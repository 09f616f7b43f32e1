package lang

import (
	"oocore/api"
	"oocore/tree"
)

// frameWords are what a call takes of the stack beside the locals.
const frameWords = 10

// ending is thrown where a program ends ahead of main's end; those that are not 0 are faults.
type ending int

const (
	cutOff ending = iota
	wrongIndex
	noStack
)

// machine does what a program says: it has the stack and the steps that are left, the global words, and what was printed.
type machine struct {
	stack, steps int
	words        []uint32
	out          []byte
}

func (m *machine) run(main *tree.Func) (o api.Outcome) {
	defer func() {
		if thrown := recover(); thrown != nil {
			o = m.ended(thrown.(ending))
		}
	}()
	value := m.call(main, nil)
	return api.Outcome{Ended: true, Out: string(m.out), Value: value, Globals: m.words}
}

func (m *machine) ended(why ending) api.Outcome {
	if why == cutOff {
		return api.Outcome{}
	}
	return api.Outcome{Ended: true, Out: string(m.out), Fault: int(why), Globals: m.words}
}

func (m *machine) step() {
	if m.steps == 0 {
		panic(cutOff)
	}
	m.steps--
}

func (m *machine) call(f *tree.Func, arguments []uint32) uint32 {
	size := frameWords + f.Locals
	if size > m.stack {
		panic(noStack)
	}
	m.stack -= size
	locals := make([]uint32, f.Locals)
	copy(locals, arguments)
	value, _ := m.do(f.Body, locals)
	m.stack += size
	return value
}

// do tells with true what a return among the statements says.
func (m *machine) do(n tree.Node, locals []uint32) (uint32, bool) {
	m.step()
	switch s := n.(type) {
	case *tree.Block:
		return m.doAll(s.Statements, locals)
	case *tree.Let:
		*m.at(s.To, locals) = m.value(s.Value, locals)
	case *tree.Set:
		*m.at(s.To, locals) = m.value(s.Value, locals)
	case *tree.Put:
		index, value := m.value(s.Index, locals), m.value(s.Value, locals)
		*m.element(s.Of, index) = value
	case *tree.Do:
		m.value(s.Call, locals)
	case *tree.If:
		return m.choose(s, locals)
	case *tree.While:
		return m.repeat(s, locals)
	case *tree.Return:
		return m.value(s.Value, locals), true
	case *tree.Print:
		m.print(byte(m.value(s.Value, locals)))
	}
	return 0, false
}

func (m *machine) doAll(statements []tree.Node, locals []uint32) (uint32, bool) {
	for _, s := range statements {
		if value, is := m.do(s, locals); is {
			return value, true
		}
	}
	return 0, false
}

func (m *machine) choose(s *tree.If, locals []uint32) (uint32, bool) {
	if m.value(s.Asked, locals) != 0 {
		return m.do(s.Then, locals)
	}
	if s.Else != nil {
		return m.do(s.Else, locals)
	}
	return 0, false
}

func (m *machine) repeat(s *tree.While, locals []uint32) (uint32, bool) {
	for m.value(s.Asked, locals) != 0 {
		if value, is := m.do(s.Body, locals); is {
			return value, true
		}
	}
	return 0, false
}

// print is called with what was evaluated, so that Out is read behind all that was printed on the way there.
func (m *machine) print(b byte) { m.out = append(m.out, b) }

func (m *machine) at(p tree.Place, locals []uint32) *uint32 {
	if p.Local {
		return &locals[p.Number]
	}
	return &m.words[p.Number]
}

func (m *machine) element(v *tree.Var, index uint32) *uint32 {
	if index >= uint32(v.Size) {
		panic(wrongIndex)
	}
	return &m.words[v.First+int(index)]
}
