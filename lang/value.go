package lang

import (
	"oocore/alu"
	"oocore/api"
	"oocore/tree"
)

func (m *machine) value(n tree.Node, locals []uint32) uint32 {
	m.step()
	switch x := n.(type) {
	case *tree.Number:
		return x.Value
	case *tree.Name:
		return *m.at(x.From, locals)
	case *tree.Index:
		return *m.element(x.Of, m.value(x.Index, locals))
	case *tree.Call:
		arguments := make([]uint32, len(x.Arguments))
		for k, a := range x.Arguments {
			arguments[k] = m.value(a, locals)
		}
		return m.call(x.Of, arguments)
	case *tree.One:
		return ofOne(x.Sign, m.value(x.Of, locals))
	}
	return m.two(n.(*tree.Two), locals)
}

// two leaves the second of && and || alone, where the first says all.
func (m *machine) two(x *tree.Two, locals []uint32) uint32 {
	first := m.value(x.First, locals)
	switch {
	case x.Sign == "&&" && first == 0:
		return 0
	case x.Sign == "||" && first != 0:
		return 1
	case x.Sign == "&&" || x.Sign == "||":
		return truth(m.value(x.Second, locals) != 0)
	}
	return ofTwo(x.Sign, first, m.value(x.Second, locals))
}

func ofOne(sign string, a uint32) uint32 {
	switch sign {
	case "-":
		return -a
	case "!":
		return truth(a == 0)
	}
	return ^a
}

func ofTwo(sign string, a, b uint32) uint32 {
	switch sign {
	case "==":
		return truth(a == b)
	case "!=":
		return truth(a != b)
	case "<":
		return truth(int32(a) < int32(b))
	case "<=":
		return truth(int32(a) <= int32(b))
	case ">":
		return truth(int32(a) > int32(b))
	case ">=":
		return truth(int32(a) >= int32(b))
	}
	return alu.Exec(operationOf(sign), a, b)
}

// operationOf a sign is the one that computes it.
func operationOf(sign string) api.Op {
	switch sign {
	case "|":
		return api.Or
	case "^":
		return api.Xor
	case "&":
		return api.And
	case "<<":
		return api.Sll
	case ">>":
		return api.Sra
	case "+":
		return api.Add
	case "-":
		return api.Sub
	case "*":
		return api.Mul
	case "/":
		return api.Div
	}
	return api.Rem
}

func truth(is bool) uint32 {
	if is {
		return 1
	}
	return 0
}
