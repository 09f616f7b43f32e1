package tree

func (r *reader) expression() Node {
	return within(r, func() Node { return r.operations(weakest) })
}

const weakest = 1

// strengthOf a sign of an operation of two; 0: it is none.
func strengthOf(sign string) int {
	switch sign {
	case "||":
		return weakest
	case "&&":
		return 2
	case "|":
		return 3
	case "^":
		return 4
	case "&":
		return 5
	case "==", "!=":
		return 6
	case "<", "<=", ">", ">=":
		return 7
	case "<<", ">>":
		return 8
	case "+", "-":
		return 9
	case "*", "/", "%":
		return 10
	}
	return 0
}

// operations reads those of two that are as strong as least, or stronger. What is as strong as the one ahead goes on from the left.
func (r *reader) operations(least int) Node {
	first := r.operation()
	for {
		strength := strengthOf(r.peek().text)
		if strength < least {
			return first
		}
		t := r.take()
		first = &Two{at{t.line}, t.text, first, r.operations(strength + 1)}
	}
}

// operation reads one of one, or what has none.
func (r *reader) operation() Node {
	if !r.is("-") && !r.is("!") && !r.is("~") {
		return r.value()
	}
	return within(r, func() Node {
		t := r.take()
		return &One{at{t.line}, t.text, r.operation()}
	})
}

func (r *reader) value() Node {
	here := at{r.peek().line}
	if r.took("(") {
		n := r.expression()
		r.must(")")
		return n
	}
	if r.peek().kind == aNumber {
		return &Number{here, uint32(r.number(0, maxNumber))}
	}
	name := r.name().text
	switch {
	case r.is("["):
		return &Index{at: here, Name: name, Index: r.index()}
	case r.is("("):
		return &Call{at: here, Name: name, Arguments: listed(r, r.argument)}
	}
	return &Name{at: here, Name: name}
}
