package tree

import "oocore/api"

const (
	maxName       = 16 // bytes
	maxNumber     = 1<<32 - 1
	maxSize       = 256 // words of an array
	maxParameters = 6
	maxLevels     = 24
)

// reader makes nodes of tokens; it looks at no token behind the one that comes next, so that the first fault is found first.
type reader struct {
	tokens []token
	next   int
	level  int
}

func (r *reader) peek() token { return r.tokens[r.next] }

func (r *reader) is(text string) bool { return r.peek().text == text }

// take never goes behind the end, which nothing takes.
func (r *reader) take() token {
	t := r.peek()
	r.next++
	return t
}

func (r *reader) wrong(err api.Errno) { throw(r.peek().line, err) }

// took takes the next token, if it is this one.
func (r *reader) took(text string) bool {
	if !r.is(text) {
		return false
	}
	r.take()
	return true
}

func (r *reader) must(text string) token {
	if !r.is(text) {
		r.wrong(api.ErrSyntax)
	}
	return r.take()
}

func (r *reader) name() token {
	switch t := r.peek(); {
	case t.kind != aName:
		r.wrong(api.ErrSyntax)
	case len(t.text) > maxName:
		r.wrong(api.ErrRange)
	}
	return r.take()
}

func (r *reader) number(least, greatest int) int {
	t := r.peek()
	if t.kind != aNumber {
		r.wrong(api.ErrSyntax)
	}
	n := valueOf(t.text)
	if n < least || n > greatest {
		r.wrong(api.ErrRange)
	}
	r.take()
	return n
}

// valueOf digits is cut off above all numbers, however many there are.
func valueOf(digits string) int {
	n := 0
	for _, c := range digits {
		n = min(n*10+int(c-'0'), maxNumber+1)
	}
	return n
}

// within reads what is one level of nesting, which begins with the next token, whatever that is.
func within[T Node](r *reader, read func() T) T {
	r.level++
	if r.level > maxLevels {
		r.wrong(api.ErrRange)
	}
	n := read()
	r.level--
	return n
}

// listed reads a list in brackets; what is read is told how many are ahead of it.
func listed[T any](r *reader, read func(ahead int) T) []T {
	var list []T
	r.must("(")
	if r.took(")") {
		return nil
	}
	list = append(list, read(0))
	for r.took(",") {
		list = append(list, read(len(list)))
	}
	r.must(")")
	return list
}

func (r *reader) declarations() []Node {
	var list []Node
	for r.peek().kind != endOfText {
		list = append(list, r.declaration())
	}
	return list
}

func (r *reader) declaration() Node {
	here := at{r.peek().line}
	if r.took("var") {
		return r.variable(here)
	}
	r.must("func")
	f := &Func{at: here, Name: r.name().text}
	f.Parameters = listed(r, r.parameter)
	f.Body = r.block()
	return f
}

func (r *reader) variable(here at) Node {
	v := &Var{at: here, Name: r.name().text}
	if r.took("[") {
		v.Size = r.number(1, maxSize)
		r.must("]")
	}
	r.must(";")
	return v
}

func (r *reader) parameter(ahead int) string {
	if r.peek().kind == aName && ahead == maxParameters {
		r.wrong(api.ErrRange)
	}
	return r.name().text
}

func (r *reader) block() *Block {
	return within(r, func() *Block {
		b := &Block{at: at{r.must("{").line}}
		for !r.took("}") {
			b.Statements = append(b.Statements, r.statement())
		}
		return b
	})
}
