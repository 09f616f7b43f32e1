package lang_test

import (
	"fmt"
	"math/rand"
	"strings"
	"testing"

	"oocore/lang"
	"oocore/plain"
)

// writer writes programs, piece by piece; most of them have no fault.
type writer struct {
	*rand.Rand
	pieces   []string
	vars     []string
	arrays   []string
	sizes    map[string]int
	funcs    []string
	takes    map[string]int
	visible  []string
	locals   int
	careless int // of a hundred names, how many are any
}

func (w *writer) put(format string, a ...any) {
	w.pieces = append(w.pieces, strings.Fields(fmt.Sprintf(format, a...))...)
}

func (w *writer) pick(list []string) string {
	if w.Intn(100) < w.careless || len(list) == 0 {
		return strings.Fields("g h a b f k main x y i n q main zz l0 l1 l2 p0")[w.Intn(18)]
	}
	return list[w.Intn(len(list))]
}

// program plans the declarations, so that each may name those behind it.
func (w *writer) program() {
	w.sizes, w.takes = map[string]int{}, map[string]int{"main": 0}
	w.vars = []string{"g", "h"}[:w.Intn(3)]
	w.arrays = []string{"a", "b"}[:w.Intn(3)]
	w.funcs = []string{"f", "k", "m", "o"}[:w.Intn(4)]
	for _, a := range w.arrays {
		w.sizes[a] = 1 + w.Intn(5)
	}
	for _, f := range w.funcs {
		w.takes[f] = w.Intn(4)
		if w.Intn(10) == 0 {
			w.takes[f] = w.Intn(7)
		}
	}
	var list []func()
	for _, v := range w.vars {
		list = append(list, func() { w.put("var %s ;", v) })
	}
	for _, a := range w.arrays {
		list = append(list, func() { w.put("var %s [ %d ] ;", a, w.sizes[a]) })
	}
	for _, f := range append([]string{"main"}, w.funcs...) {
		list = append(list, func() { w.function(f) })
	}
	w.Shuffle(len(list), func(i, j int) { list[i], list[j] = list[j], list[i] })
	for _, declare := range list {
		declare()
	}
}

func (w *writer) function(name string) {
	w.visible, w.locals = nil, 0
	w.put("func %s (", name)
	for n := range w.takes[name] {
		if n > 0 {
			w.put(",")
		}
		p := fmt.Sprintf("p%d", n)
		w.visible = append(w.visible, p)
		w.put("%s", p)
	}
	w.put(")")
	w.block(2 + w.Intn(3))
}

func (w *writer) block(depth int) {
	visible := len(w.visible)
	w.put("{")
	for range w.Intn(5) {
		w.statement(depth)
	}
	w.put("}")
	w.visible = w.visible[:visible]
}

func (w *writer) statement(depth int) {
	switch n := w.Intn(14); {
	case n < 3 && w.locals < 24:
		name := fmt.Sprintf("l%d", w.locals%(3+w.Intn(22)))
		for _, v := range w.visible {
			if v == name && w.careless == 0 {
				return
			}
		}
		w.put("let %s =", name)
		w.expression(2)
		w.put(";")
		w.visible = append(w.visible, name)
		w.locals++
	case n < 5:
		w.put("%s =", w.pick(append(w.visible, w.vars...)))
		w.expression(3)
		w.put(";")
	case n < 7 && len(w.arrays) > 0:
		w.put("%s [", w.pick(w.arrays))
		w.expression(1)
		w.put("] =")
		w.expression(2)
		w.put(";")
	case n == 7 && len(w.funcs) > 0:
		w.call(w.pick(w.funcs), 2)
		w.put(";")
	case n == 8 && w.Intn(3) == 0:
		w.put("return")
		w.expression(3)
		w.put(";")
	case n == 9:
		w.put("print")
		w.expression(2)
		w.put(";")
	case n < 12 && depth > 0:
		w.put("if")
		w.expression(2)
		w.block(depth - 1)
		if w.Intn(2) == 0 {
			w.put("else")
			w.block(depth - 1)
		}
	case n < 14 && depth > 0 && w.locals < 24:
		w.loop(depth)
	}
}

// loop writes one that ends, most of the time.
func (w *writer) loop(depth int) {
	if w.Intn(5) == 0 {
		w.put("while")
		w.expression(2)
		w.block(depth - 1)
		return
	}
	name := fmt.Sprintf("c%d", w.locals)
	w.locals++
	w.put("let %s = 0 ; while %s < %d {", name, name, w.Intn(5))
	w.visible = append(w.visible, name)
	visible := len(w.visible)
	for range w.Intn(4) {
		w.statement(depth - 1)
	}
	w.visible = w.visible[:visible]
	w.put("%s = %s + 1 ; }", name, name)
}

func (w *writer) call(name string, depth int) {
	w.put("%s (", name)
	for n := range w.takes[name] {
		if n > 0 {
			w.put(",")
		}
		w.expression(depth - 1)
	}
	w.put(")")
}

func (w *writer) expression(depth int) {
	switch n := w.Intn(16); {
	case depth > 0 && n < 5:
		w.expression(depth - 1)
		w.put("%s", strings.Fields(pairs)[w.Intn(18)])
		w.expression(depth - 1)
	case depth > 0 && n < 7:
		w.put("(")
		w.expression(depth - 1)
		w.put(")")
	case depth > 0 && n < 9:
		w.put("%s", strings.Fields("- ! ~")[w.Intn(3)])
		w.expression(depth - 1)
	case depth > 0 && n < 11 && len(w.arrays) > 0:
		w.put("%s [", w.pick(w.arrays))
		w.expression(depth - 1)
		w.put("]")
	case depth > 0 && n < 13 && len(w.funcs) > 0:
		w.call(w.pick(w.funcs), depth)
	case n < 15 && len(w.visible)+len(w.vars) > 0:
		w.put("%s", w.pick(append(w.visible, w.vars...)))
	case w.Intn(8) == 0:
		w.put("%d", edges[w.Intn(len(edges))])
	default:
		w.put("%d", w.Intn(6))
	}
}

// spoil changes some pieces.
func (w *writer) spoil() {
	others := strings.Fields("var func let if else while return print ( ) [ ] { } , ; = ! ~ $ 1a 12_ A _ 0 1 256 257 4294967295 4294967296 4294967296a abcdefghijklmnop abcdefghijklmnopq é \xff main g a f x l0 // \r " + pairs)
	for range 1 + w.Intn(3) {
		k := w.Intn(len(w.pieces))
		switch w.Intn(6) {
		case 0:
			w.pieces = append(w.pieces[:k], w.pieces[k+1:]...)
		case 1:
			w.pieces[k] = others[w.Intn(len(others))]
		case 2:
			w.pieces[k] += " " + others[w.Intn(len(others))]
		case 3:
			o := w.Intn(len(w.pieces))
			w.pieces[k], w.pieces[o] = w.pieces[o], w.pieces[k]
		case 4:
			w.pieces[k] = strings.Repeat(strings.Fields("( - ! ~ a[ f( k(1, if\t1\t{")[w.Intn(8)]+" ", 1+w.Intn(25)) + w.pieces[k]
		case 5:
			w.pieces = w.pieces[:k+1]
		}
		if len(w.pieces) == 0 {
			w.pieces = []string{""}
		}
	}
}

// text lays blanks and remarks between the pieces.
func (w *writer) text() string {
	var s strings.Builder
	for _, p := range w.pieces {
		s.WriteString(p)
		switch w.Intn(12) {
		case 0:
			s.WriteString("\n")
		case 1:
			s.WriteString(" // if 1 { é\n")
		case 2:
			s.WriteString("\t ")
		default:
			s.WriteString(" ")
		}
	}
	return s.String()
}

// Any text is checked as the second reading has it.
func agreeOnCheck(t *testing.T, text string) (*reading, bool) {
	m, wrong := modelCheck(text)
	line, err := lang.Check(text)
	if line != wrong.line || plain.Told(err) != wrong.err {
		t.Fatalf("L1 to L4: Check(%q) = %d, %v, want %d, %v", text, line, err, wrong.line, wrong.err)
	}
	return m, m != nil
}

// Any program comes to what the second reading has it come to: with more steps than it takes, with so many, with fewer.
func agreeOnEval(t *testing.T, m *reading, text string, stack, most int) {
	_, took := modelEval(m, stack, most)
	for _, steps := range []int{most, took, took - 1, took / 2} {
		if steps < 0 || steps > 20000 {
			continue
		}
		want, _ := modelEval(m, stack, steps)
		if got, err := lang.Eval(text, stack, steps); err != nil || !same(got, want) {
			t.Fatalf("L5, L6: Eval(%q, %d, %d) = %+v, %v, want %+v", text, stack, steps, got, err, want)
		}
	}
}

func TestRandomPrograms(t *testing.T) {
	r := rand.New(rand.NewSource(101))
	ended, faults := 0, map[int]int{}
	for range 1500 {
		w := &writer{Rand: r, careless: max(0, r.Intn(8)-6)}
		w.program()
		text := w.text()
		m, fine := agreeOnCheck(t, text)
		if !fine {
			continue
		}
		stack := []int{512, 100, 60, 40, 25, r.Intn(513)}[r.Intn(6)]
		agreeOnEval(t, m, text, stack, 3000)
		if o, _ := lang.Eval(text, stack, 3000); o.Ended {
			ended++
			faults[o.Fault]++
		}
	}
	if ended < 500 || faults[1] < 50 || faults[2] < 20 {
		t.Errorf("the programs are too much alike: %d ended, with faults %v", ended, faults)
	}
}

func TestRandomTexts(t *testing.T) {
	r := rand.New(rand.NewSource(102))
	told := map[int]int{}
	for range 4000 {
		w := &writer{Rand: r, careless: r.Intn(10)}
		w.program()
		w.spoil()
		text := w.text()
		agreeOnCheck(t, text)
		_, err := lang.Check(text)
		told[int(plain.Told(err))]++
	}
	for _, e := range []int{0, 3, 8, 9} {
		if told[e] < 20 {
			t.Errorf("the texts are too much alike: %v", told)
		}
	}
}

// Texts in which some bytes are any, and texts of any bytes.
func TestRandomBytes(t *testing.T) {
	r := rand.New(rand.NewSource(103))
	const likely = "\n\t //09az_AZ|^&<>+-*%!~()[]{},;=\x00\x1f\x7f\x80\xc3\xa9\xff\r"
	any := func() byte {
		if r.Intn(3) == 0 {
			return byte(r.Intn(256))
		}
		return likely[r.Intn(len(likely))]
	}
	for range 2000 {
		w := &writer{Rand: r}
		w.program()
		text := []byte(w.text())
		for range 1 + r.Intn(3) {
			k := r.Intn(len(text))
			switch r.Intn(3) {
			case 0:
				text[k] = any()
			case 1:
				text = append(text[:k], text[k+1:]...)
			case 2:
				text = append(text[:k], append([]byte{any()}, text[k:]...)...)
			}
		}
		agreeOnCheck(t, string(text))
		noise := make([]byte, r.Intn(40))
		for k := range noise {
			noise[k] = any()
		}
		agreeOnCheck(t, string(noise))
		agreeOnCheck(t, "func main() { return 1 "+string(noise))
	}
}
