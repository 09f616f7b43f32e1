package tree

import "oocore/api"

func (r *reader) statement() Node {
	here := at{r.peek().line}
	switch {
	case r.took("let"):
		name := r.name().text
		return &Let{at: here, Name: name, Value: r.assigned()}
	case r.took("if"):
		return r.choice(here)
	case r.took("while"):
		return &While{here, r.expression(), r.block()}
	case r.took("return"):
		return &Return{here, r.ended(r.expression())}
	case r.took("print"):
		return &Print{here, r.ended(r.expression())}
	}
	return r.named(here)
}

func (r *reader) choice(here at) Node {
	n := &If{at: here, Asked: r.expression(), Then: r.block()}
	if r.took("else") {
		n.Else = r.block()
	}
	return n
}

// named reads a statement that begins with a NAME.
func (r *reader) named(here at) Node {
	name := r.name().text
	switch {
	case r.is("="):
		return &Set{at: here, Name: name, Value: r.assigned()}
	case r.is("["):
		index := r.index()
		return &Put{at: here, Name: name, Index: index, Value: r.assigned()}
	case r.is("("):
		call := &Call{at: here, Name: name, Arguments: listed(r, r.argument)}
		r.must(";")
		return &Do{here, call}
	}
	r.wrong(api.ErrSyntax)
	return nil
}

func (r *reader) assigned() Node {
	r.must("=")
	return r.ended(r.expression())
}

func (r *reader) ended(n Node) Node {
	r.must(";")
	return n
}

func (r *reader) index() Node {
	r.must("[")
	n := r.expression()
	r.must("]")
	return n
}

func (r *reader) argument(int) Node { return r.expression() }
