package gen

import "oocore/tree"

func (w *writer) block(b *tree.Block) {
	for _, s := range b.Statements {
		w.statement(s)
	}
}

func (w *writer) statement(n tree.Node) {
	switch s := n.(type) {
	case *tree.Let:
		w.set(s.To, s.Value)
	case *tree.Set:
		w.set(s.To, s.Value)
	case *tree.Put:
		w.element(s)
	case *tree.Do:
		w.call(s.Call)
	case *tree.If:
		w.choice(s)
	case *tree.While:
		w.loop(s)
	case *tree.Return:
		w.value(s.Value, 0)
		w.put("j", w.end)
	case *tree.Print:
		w.value(s.Value, 0)
		w.put("sb", value, word(0, device))
	}
}

func (w *writer) set(to tree.Place, n tree.Node) {
	w.value(n, 0)
	w.put("sw", value, placeOf(to))
}

// element looks at the index behind the value.
func (w *writer) element(s *tree.Put) {
	w.value(s.Index, 0)
	index, what := temporary(0), temporary(1)
	if hasCall(s.Value) {
		w.keep(index)
		w.value(s.Value, 0)
		index, what = kept, temporary(0)
		w.fetch(index)
	} else {
		w.value(s.Value, 1)
	}
	place := w.elementOf(s.Of, index)
	w.put("sw", what, place)
}

func (w *writer) choice(s *tree.If) {
	otherwise := w.label()
	w.value(s.Asked, 0)
	w.unless("bne", value, "x0", otherwise)
	w.block(s.Then)
	if s.Else == nil {
		w.here(otherwise)
		return
	}
	end := w.label()
	w.put("j", end)
	w.here(otherwise)
	w.block(s.Else)
	w.here(end)
}

func (w *writer) loop(s *tree.While) {
	again, end := w.label(), w.label()
	w.here(again)
	w.value(s.Asked, 0)
	w.unless("bne", value, "x0", end)
	w.block(s.Body)
	w.put("j", again)
	w.here(end)
}
