package lang_test

import (
	"slices"

	"oocore/api"
)

// namesOfAll is the promise L4.
func (m *reading) namesOfAll() {
	words := 0
	for n, d := range m.declared {
		line := m.pieces[d.begin].line
		if slices.ContainsFunc(m.declared[:n], func(e declared) bool { return e.name == d.name }) {
			panic(mistake{line, api.ErrLabel})
		}
		if words += d.size; d.size > 0 && words > 512 {
			panic(mistake{line, api.ErrImage})
		}
		if d.kind == "func" {
			w := &walk{m, d.begin, nil}
			for _, p := range d.parameters {
				w.local(p, line)
			}
			w.block(d.block)
		}
	}
	if d, ok := m.find("main"); !ok || d.kind != "func" || len(d.parameters) > 0 {
		panic(mistake{0, api.ErrLabel})
	}
}

// walk goes through a func, with the names of the locals that are visible.
type walk struct {
	*reading
	begin   int
	visible []string
}

func (w *walk) local(name string, line int) {
	if _, is := w.find(name); is || slices.Contains(w.visible, name) {
		panic(mistake{line, api.ErrLabel})
	}
	w.visible = append(w.visible, name)
	if w.locals[w.begin]++; w.locals[w.begin] > 24 {
		panic(mistake{line, api.ErrFull})
	}
}

func (w *walk) block(open int) {
	visible := slices.Clone(w.visible)
	for k := open + 1; k < w.partners[open]; {
		k = w.statement(k)
	}
	w.visible = visible
}

// statement gives the piece behind it.
func (w *walk) statement(k int) int {
	switch w.kind(k) {
	case "if", "while":
		open := w.behind(k, "{")
		w.whole(span{k + 1, open}, 0)
		w.block(open)
		end := w.partners[open] + 1
		if w.kind(k) == "if" && w.kind(end) == "else" {
			w.block(end + 1)
			end = w.partners[end+1] + 1
		}
		return end
	}
	end := w.behind(k, ";")
	switch {
	case w.kind(k) == "let":
		w.whole(span{k + 3, end}, 0)
		w.local(w.pieces[k+1].text, w.pieces[k].line)
	case w.kind(k) != "name":
		w.whole(span{k + 1, end}, 0)
	case w.kind(k+1) == "=":
		w.name(k)
		w.whole(span{k + 2, end}, 0)
	case w.kind(k+1) == "[":
		w.name(k)
		w.whole(span{k + 2, w.partners[k+1]}, 0)
		w.whole(span{w.partners[k+1] + 2, end}, 1)
	default:
		w.whole(span{k, end}, 0)
	}
	return end + 1
}

func (w *walk) whole(s span, more int) {
	for k := s.from; k < s.to; k++ {
		if w.kind(k) == "name" {
			w.name(k)
		}
	}
	if w.needs(s)+more > 8 {
		k, _ := w.head(s)
		panic(mistake{w.pieces[k].line, api.ErrFull})
	}
}

func (w *walk) name(k int) {
	name := w.pieces[k].text
	d, _ := w.find(name)
	local := slices.Contains(w.visible, name)
	fine := local || d.kind == "var"
	switch w.kind(k + 1) {
	case "[":
		fine = !local && d.kind == "array"
	case "(":
		fine = !local && d.kind == "func" && len(d.parameters) == len(w.arguments(k))
	}
	if !fine {
		panic(mistake{w.pieces[k].line, api.ErrLabel})
	}
}
