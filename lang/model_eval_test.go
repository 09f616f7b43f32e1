package lang_test

import "oocore/api"

// process does what a reading says, piece by piece, as the promises L5 and L6 have it.
type process struct {
	*reading
	stack, steps, most int
	words              []uint32
	out                []byte
}

// values of locals by their names; what is visible in a block goes in with it, and what is declared there is gone behind it.
type values map[string]uint32

// done is thrown when a program ends with a fault, or at the first step too many.
type done int

// modelEval is Eval of a text in which nothing is wrong, and how many steps it took.
func modelEval(m *reading, stack, steps int) (o api.Outcome, took int) {
	p := &process{reading: m, stack: stack, most: steps}
	for _, d := range m.declared {
		p.words = append(p.words, make([]uint32, d.size)...)
	}
	defer func() {
		if thrown := recover(); thrown != nil && p.steps <= p.most {
			o = api.Outcome{Ended: true, Out: string(p.out), Fault: int(thrown.(done)), Globals: p.words}
		}
		took = p.steps
	}()
	main, _ := m.find("main")
	v := p.called(main, nil)
	return api.Outcome{Ended: true, Out: string(p.out), Value: v, Globals: p.words}, 0
}

func (p *process) step() {
	if p.steps++; p.steps > p.most {
		panic(done(-1))
	}
}

func (p *process) called(d declared, arguments []uint32) uint32 {
	take := 10 + p.locals[d.begin]
	if p.stack < take {
		panic(done(2))
	}
	p.stack -= take
	v := values{}
	for n, name := range d.parameters {
		v[name] = arguments[n]
	}
	value, _ := p.block(d.block, v)
	p.stack += take
	return value
}

// block gives true with the value of a return.
func (p *process) block(open int, v values) (uint32, bool) {
	p.step()
	inner := map[string]bool{}
	defer func() {
		for name := range inner {
			delete(v, name)
		}
	}()
	for k := open + 1; k < p.partners[open]; {
		if p.kind(k) == "let" {
			inner[p.pieces[k+1].text] = true
		}
		next, value, is := p.statement(k, v)
		if is {
			return value, true
		}
		k = next
	}
	return 0, false
}

func (p *process) statement(k int, v values) (next int, value uint32, is bool) {
	p.step()
	if p.kind(k) == "if" || p.kind(k) == "while" {
		return p.branch(k, v)
	}
	end := p.behind(k, ";")
	next = end + 1
	switch p.kind(k) {
	case "let":
		v[p.pieces[k+1].text] = p.value(span{k + 3, end}, v)
	case "return":
		return next, p.value(span{k + 1, end}, v), true
	case "print":
		low := byte(p.value(span{k + 1, end}, v) & 255)
		p.out = append(p.out, low)
	default:
		p.named(k, end, v)
	}
	return next, 0, false
}

func (p *process) named(k, end int, v values) {
	d, _ := p.find(p.pieces[k].text)
	switch p.kind(k + 1) {
	case "(":
		p.value(span{k, end}, v)
	case "[":
		index := p.value(span{k + 2, p.partners[k+1]}, v)
		value := p.value(span{p.partners[k+1] + 2, end}, v)
		p.words[p.element(d, index)] = value
	case "=":
		value := p.value(span{k + 2, end}, v)
		if _, local := v[p.pieces[k].text]; local {
			v[p.pieces[k].text] = value
		} else {
			p.words[d.first] = value
		}
	}
}

func (p *process) element(d declared, index uint32) int {
	if int64(index) >= int64(d.size) {
		panic(done(1))
	}
	return d.first + int(index)
}

func (p *process) branch(k int, v values) (next int, value uint32, is bool) {
	open := p.behind(k, "{")
	asked := span{k + 1, open}
	next = p.partners[open] + 1
	other := 0
	if p.kind(k) == "if" && p.kind(next) == "else" {
		other = next + 1
		next = p.partners[other] + 1
	}
	for {
		yes := p.value(asked, v) != 0
		if yes {
			value, is = p.block(open, v)
		} else if other > 0 {
			value, is = p.block(other, v)
		}
		if is || !yes || p.kind(k) == "if" {
			return next, value, is
		}
	}
}

func (p *process) value(s span, v values) uint32 {
	k, s := p.head(s)
	p.step()
	sign := p.kind(k)
	switch {
	case k > s.from:
		first := p.value(span{s.from, k}, v)
		if sign == "&&" && first == 0 || sign == "||" && first != 0 {
			return meant(sign, first, first)
		}
		return meant(sign, first, p.value(span{k + 1, s.to}, v))
	case sign == "-":
		return meant("-", 0, p.value(span{k + 1, s.to}, v))
	case sign == "!":
		return meant("==", 0, p.value(span{k + 1, s.to}, v))
	case sign == "~":
		return meant("^", 0xffffffff, p.value(span{k + 1, s.to}, v))
	case sign == "number":
		return p.number(k)
	}
	d, _ := p.find(p.pieces[k].text)
	switch p.kind(k + 1) {
	case "[":
		return p.words[p.element(d, p.value(span{k + 2, s.to - 1}, v))]
	case "(":
		var arguments []uint32
		for _, a := range p.arguments(k) {
			arguments = append(arguments, p.value(a, v))
		}
		return p.called(d, arguments)
	}
	if value, local := v[p.pieces[k].text]; local {
		return value
	}
	return p.words[d.first]
}
