package tree

import "oocore/api"

const (
	maxWords  = 512 // global words
	maxLocals = 24
	maxNeed   = 8 // temporaries
)

// finder finds what names mean, and throws the first that means nothing. Of two declarations of one name it has the first.
type finder struct {
	declared map[string]Node
	function *Func
	visible  []local
}

// local that is visible, and its number.
type local struct {
	name   string
	number int
}

func (p *Program) findNames() {
	f := finder{declared: map[string]Node{}}
	for _, d := range p.Declarations {
		if _, is := f.declared[nameOf(d)]; !is {
			f.declared[nameOf(d)] = d
		}
	}
	p.layVars()
	for _, d := range p.Declarations {
		f.declaration(d)
	}
	main, is := f.declared["main"].(*Func)
	if !is || len(main.Parameters) > 0 {
		throw(0, api.ErrLabel)
	}
	p.Main = main
}

func nameOf(declaration Node) string {
	if v, is := declaration.(*Var); is {
		return v.Name
	}
	return declaration.(*Func).Name
}

// layVars says where all vars stand ahead of what is looked at func by func, since a func may name a var that comes behind it.
func (p *Program) layVars() {
	for _, d := range p.Declarations {
		if v, is := d.(*Var); is {
			v.First = p.Words
			p.Words += v.words()
		}
	}
}

// words of an array are its size; a var that is none is one.
func (v *Var) words() int { return max(v.Size, 1) }

func (f *finder) declaration(d Node) {
	if f.declared[nameOf(d)] != d {
		throw(d.Line(), api.ErrLabel)
	}
	switch d := d.(type) {
	case *Var:
		if d.First+d.words() > maxWords {
			throw(d.Line(), api.ErrImage)
		}
	case *Func:
		f.function, f.visible = d, nil
		for _, name := range d.Parameters {
			f.declare(name, d.Line())
		}
		f.block(d.Body)
	}
}

// declare makes a local visible.
func (f *finder) declare(name string, line int) Place {
	_, is := f.local(name)
	if is || f.declared[name] != nil {
		throw(line, api.ErrLabel)
	}
	if f.function.Locals == maxLocals {
		throw(line, api.ErrFull)
	}
	n := f.function.Locals
	f.function.Locals++
	f.visible = append(f.visible, local{name, n})
	return Place{true, n}
}

func (f *finder) local(name string) (int, bool) {
	for _, l := range f.visible {
		if l.name == name {
			return l.number, true
		}
	}
	return 0, false
}

func (f *finder) block(b *Block) {
	ahead := len(f.visible)
	for _, s := range b.Statements {
		f.statement(s)
	}
	f.visible = f.visible[:ahead]
}

func (f *finder) statement(n Node) {
	switch s := n.(type) {
	case *Let:
		f.whole(s.Value, 0)
		s.To = f.declare(s.Name, s.Line())
	case *Set:
		s.To = f.word(s.Name, s.Line())
		f.whole(s.Value, 0)
	case *Put:
		s.Of = f.array(s.Name, s.Line())
		f.whole(s.Index, 0)
		f.whole(s.Value, 1)
	case *Do:
		f.whole(s.Call, 0)
	case *If:
		f.whole(s.Asked, 0)
		f.block(s.Then)
		if s.Else != nil {
			f.block(s.Else)
		}
	case *While:
		f.whole(s.Asked, 0)
		f.block(s.Body)
	case *Return:
		f.whole(s.Value, 0)
	case *Print:
		f.whole(s.Value, 0)
	}
}

// whole looks at an expression that is no part of another; more is what its statement needs beside it.
func (f *finder) whole(n Node, more int) {
	f.names(n)
	if need(n)+more > maxNeed {
		throw(n.Line(), api.ErrFull)
	}
}

func (f *finder) names(n Node) {
	switch x := n.(type) {
	case *Name:
		x.From = f.word(x.Name, x.Line())
	case *Index:
		x.Of = f.array(x.Name, x.Line())
		f.names(x.Index)
	case *Call:
		x.Of = f.called(x)
		for _, a := range x.Arguments {
			f.names(a)
		}
	case *One:
		f.names(x.Of)
	case *Two:
		f.names(x.First)
		f.names(x.Second)
	}
}

func (f *finder) word(name string, line int) Place {
	if n, is := f.local(name); is {
		return Place{true, n}
	}
	v, is := f.declared[name].(*Var)
	if !is || v.Size > 0 {
		throw(line, api.ErrLabel)
	}
	return Place{false, v.First}
}

// array: no local that is visible has the name of a declaration, so that none need be asked for here, nor in called.
func (f *finder) array(name string, line int) *Var {
	v, is := f.declared[name].(*Var)
	if !is || v.Size == 0 {
		throw(line, api.ErrLabel)
	}
	return v
}

func (f *finder) called(c *Call) *Func {
	g, is := f.declared[c.Name].(*Func)
	if !is || len(g.Parameters) != len(c.Arguments) {
		throw(c.Line(), api.ErrLabel)
	}
	return g
}

// need is how many temporaries an expression takes.
func need(n Node) int {
	switch x := n.(type) {
	case *Index:
		return need(x.Index)
	case *One:
		return need(x.Of)
	case *Two:
		if x.Sign == "&&" || x.Sign == "||" {
			return max(need(x.First), need(x.Second))
		}
		return max(need(x.First), need(x.Second)+1)
	case *Call:
		most := 1
		for ahead, a := range x.Arguments {
			most = max(most, need(a)+ahead)
		}
		return most
	}
	return 1
}
