package gen

import (
	"strconv"

	"oocore/tree"
)

// value writes what puts an expression's value into a temporary; those ahead of it hold what is still to be used. One that has a call in it comes into the first one alone, for whatever it is to be used with was kept in the frame.
func (w *writer) value(n tree.Node, to int) {
	switch x := n.(type) {
	case *tree.Number:
		w.put("li", temporary(to), strconv.FormatUint(uint64(x.Value), 10))
	case *tree.Name:
		w.put("lw", temporary(to), placeOf(x.From))
	case *tree.Index:
		w.value(x.Index, to)
		place := w.elementOf(x.Of, temporary(to))
		w.put("lw", temporary(to), place)
	case *tree.Call:
		w.call(x)
	case *tree.One:
		w.value(x.Of, to)
		w.one(x.Sign, temporary(to))
	case *tree.Two:
		w.two(x, to)
	}
}

// hasCall tells whether there is a call anywhere in an expression.
func hasCall(n tree.Node) bool {
	switch x := n.(type) {
	case *tree.Call:
		return true
	case *tree.Index:
		return hasCall(x.Index)
	case *tree.One:
		return hasCall(x.Of)
	case *tree.Two:
		return hasCall(x.First) || hasCall(x.Second)
	}
	return false
}

// elementOf writes what looks at an index, and makes of its register one for the element's place.
func (w *writer) elementOf(v *tree.Var, index string) string {
	w.put("sltiu", spare, index, strconv.Itoa(v.Size))
	w.unless("bne", spare, "x0", wrongIndex)
	w.put("slli", index, index, "2")
	w.put("add", index, index, data)
	return word(v.First, index)
}

// call gives the arguments behind the last one that has a call in it their own registers at once; those ahead of it are kept until then.
func (w *writer) call(c *tree.Call) {
	last := lastWithCall(c.Arguments)
	for n, a := range c.Arguments {
		switch {
		case n > last:
			w.value(a, n)
		case n == last && n > 0:
			w.value(a, 0)
			w.put("mv", temporary(n), temporary(0))
		case n == last:
			w.value(a, 0)
		default:
			w.value(a, 0)
			w.keep(temporary(0))
		}
	}
	for n := last - 1; n >= 0; n-- {
		w.fetch(temporary(n))
	}
	w.put("call", c.Name)
}

// lastWithCall is -1, if none has a call.
func lastWithCall(arguments []tree.Node) int {
	last := -1
	for n, a := range arguments {
		if hasCall(a) {
			last = n
		}
	}
	return last
}

func (w *writer) one(sign, register string) {
	switch sign {
	case "-":
		w.put("neg", register, register)
	case "!":
		w.put("sltiu", register, register, "1")
	case "~":
		w.put("not", register, register)
	}
}

func (w *writer) two(x *tree.Two, to int) {
	if x.Sign == "&&" || x.Sign == "||" {
		w.both(x, to)
		return
	}
	w.value(x.First, to)
	if !hasCall(x.Second) {
		w.value(x.Second, to+1)
		w.operation(x.Sign, temporary(to), temporary(to), temporary(to+1))
		return
	}
	w.keep(temporary(to))
	w.value(x.Second, to)
	w.fetch(kept)
	w.operation(x.Sign, temporary(to), kept, temporary(to))
}

// both leaves the second out where the first says all; either is then made 1 or 0.
func (w *writer) both(x *tree.Two, to int) {
	end, goOn := w.label(), "bne"
	if x.Sign == "||" {
		goOn = "beq"
	}
	w.value(x.First, to)
	w.unless(goOn, temporary(to), "x0", end)
	w.value(x.Second, to)
	w.here(end)
	w.put("sltu", temporary(to), "x0", temporary(to))
}

func (w *writer) operation(sign, to, a, b string) {
	switch sign {
	case "==":
		w.put("sub", to, a, b)
		w.put("sltiu", to, to, "1")
	case "!=":
		w.put("sub", to, a, b)
		w.put("sltu", to, "x0", to)
	case "<":
		w.put("slt", to, a, b)
	case ">":
		w.put("slt", to, b, a)
	case "<=":
		w.put("slt", to, b, a)
		w.put("xori", to, to, "1")
	case ">=":
		w.put("slt", to, a, b)
		w.put("xori", to, to, "1")
	default:
		w.put(nameOf(sign), to, a, b)
	}
}

// nameOf a sign is the instruction that does it alone.
func nameOf(sign string) string {
	switch sign {
	case "|":
		return "or"
	case "^":
		return "xor"
	case "&":
		return "and"
	case "<<":
		return "sll"
	case ">>":
		return "sra"
	case "+":
		return "add"
	case "-":
		return "sub"
	case "*":
		return "mul"
	case "/":
		return "div"
	}
	return "rem"
}
