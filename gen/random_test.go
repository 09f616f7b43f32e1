package gen_test

import (
	"fmt"
	"math/rand"
	"slices"
	"strings"
	"testing"

	"oocore/lang"
)

// author writes programs in which nothing is wrong: it counts the temporaries that are left, and the levels.
type author struct {
	*rand.Rand
	text    strings.Builder
	words   []string // globals that are no arrays
	arrays  []string
	sizes   map[string]int
	funcs   []string
	takes   map[string]int
	visible []string
	locals  int
	calls   int // of ten parts, how many are calls where there may be one
	fuel    bool
}

func (a *author) put(format string, v ...any) { fmt.Fprintf(&a.text, format, v...) }

func (a *author) one(list ...string) string { return list[a.Intn(len(list))] }

// program with fuel has functions that stop calling when it is used up.
func (a *author) program() string {
	a.sizes, a.takes = map[string]int{}, map[string]int{}
	a.fuel = a.Intn(4) > 0
	a.calls = a.Intn(7)
	a.words = []string{"z", "g", "h"}[:1+a.Intn(3)]
	a.arrays = []string{"a", "b", "c"}[:a.Intn(4)]
	for _, n := range a.arrays {
		a.sizes[n] = []int{1, 2, 4, 8, 1 + a.Intn(256)}[a.Intn(5)] % 160
		a.sizes[n] = max(1, a.sizes[n])
	}
	a.funcs = []string{"f", "k", "main", "m", "o"}[:1+a.Intn(5)]
	for _, n := range a.funcs {
		a.takes[n] = []int{0, 1, 2, 3, 6, a.Intn(7)}[a.Intn(6)]
	}
	a.takes["main"] = 0
	if len(a.funcs) < 3 {
		a.funcs = append(a.funcs, "main")
	}
	var list []func()
	for _, n := range a.words {
		list = append(list, func() { a.put("var %s; ", n) })
	}
	for _, n := range a.arrays {
		list = append(list, func() { a.put("var %s[%d]; ", n, a.sizes[n]) })
	}
	for _, n := range a.funcs {
		list = append(list, func() { a.function(n) })
	}
	a.Shuffle(len(list), func(i, j int) { list[i], list[j] = list[j], list[i] })
	for _, declare := range list {
		declare()
	}
	return a.text.String()
}

func (a *author) function(name string) {
	a.visible, a.locals = nil, 0
	for n := range a.takes[name] {
		a.visible = append(a.visible, fmt.Sprintf("p%d", n))
		a.locals++
	}
	a.put("func %s(%s) { ", name, strings.Join(a.visible, ", "))
	if a.fuel {
		a.put("z = z + 1; if z > %d { return z; } ", 1+a.Intn(25))
	}
	for range 1 + a.Intn(5) {
		a.statement(3)
	}
	if a.Intn(3) > 0 {
		a.put("return ")
		a.value(4, 8)
		a.put("; ")
	}
	a.put("} ")
}

func (a *author) block(depth int) {
	visible := len(a.visible)
	a.put("{ ")
	for range a.Intn(4) {
		a.statement(depth)
	}
	a.put("} ")
	a.visible = a.visible[:visible]
}

func (a *author) statement(depth int) {
	switch n := a.Intn(16); {
	case n < 3 && a.locals < 24:
		name := fmt.Sprintf("l%d", a.locals)
		a.locals++
		a.put("let %s = ", name)
		a.value(3, 8)
		a.put("; ")
		a.visible = append(a.visible, name)
	case n < 6:
		a.put("%s = ", a.one(slices.Concat(a.words[1:], a.visible, a.words[len(a.words)-1:])...))
		a.value(4, 8)
		a.put("; ")
	case n < 9 && len(a.arrays) > 0:
		name := a.one(a.arrays...)
		a.put("%s[", name)
		a.index(name, 3, 8)
		a.put("] = ")
		a.value(3, 7)
		a.put("; ")
	case n == 9:
		a.call(3, 8)
		a.put("; ")
	case n == 10:
		a.put("print ")
		a.value(3, 8)
		a.put("; ")
	case n < 13 && depth > 0:
		a.put("if ")
		a.value(3, 8)
		a.put(" ")
		a.block(depth - 1)
		if a.Intn(2) == 0 {
			a.put("else ")
			a.block(depth - 1)
		}
	case n < 15 && depth > 0 && a.locals < 24:
		a.loop(depth)
	case n == 15 && a.Intn(4) == 0:
		a.put("return ")
		a.value(3, 8)
		a.put("; ")
	}
}

func (a *author) loop(depth int) {
	name := fmt.Sprintf("l%d", a.locals)
	a.locals++
	a.put("let %s = 0; while %s < %d { %s = %s + 1; ", name, name, a.Intn(6), name, name)
	visible := len(a.visible)
	for range a.Intn(4) {
		a.statement(depth - 1)
	}
	a.put("} ")
	a.visible = append(a.visible[:visible], name)
}

// index is within the array most of the time.
func (a *author) index(name string, depth, left int) {
	switch {
	case a.Intn(12) == 0 || left < 2:
		a.put("%d", a.Intn(a.sizes[name]))
	case a.Intn(10) == 0:
		a.value(depth, left)
	default:
		a.put("(")
		a.value(depth, left)
		a.put(") * (%d) & %d", a.Intn(9), []int{0, 1, 3, 7, 15, 31, 63, 127}[a.bits(a.sizes[name])])
	}
}

// bits is how many may be set in an index.
func (a *author) bits(size int) int {
	n := 0
	for 2<<n <= size {
		n++
	}
	return n
}

// value takes at most so many temporaries.
func (a *author) value(depth, left int) {
	if depth > 0 && a.Intn(10) < a.calls && a.Intn(3) == 0 {
		a.call(depth, left)
		return
	}
	switch n := a.Intn(16); {
	case depth > 0 && n < 6 && left > 1:
		a.put("(")
		a.value(depth-1, left)
		a.put(" %s ", a.one(strings.Fields(pairs)...))
		a.value(depth-1, left-1)
		a.put(")")
	case left > 1 && n < 8: // down to the last temporary
		a.simple()
		a.put(" %s (", a.one("-", "+", "*", "^", "<", "=="))
		a.value(min(depth, 3), left-1)
		a.put(")")
	case depth > 0 && n < 10:
		a.put("%s", a.one("-", "!", "~"))
		a.put("(")
		a.value(depth-1, left)
		a.put(")")
	case depth > 0 && n < 12 && len(a.arrays) > 0:
		name := a.one(a.arrays...)
		a.put("%s[", name)
		a.index(name, depth-1, left)
		a.put("]")
	default:
		a.simple()
	}
}

func (a *author) simple() {
	switch n := a.Intn(8); {
	case n < 3 && len(a.visible) > 0:
		a.put("%s", a.one(a.visible...))
	case n < 5:
		a.put("%s", a.one(a.words...))
	case n == 5:
		a.put("%d", edges[a.Intn(len(edges))])
	default:
		a.put("%d", a.Intn(6))
	}
}

func (a *author) call(depth, left int) {
	name := a.one(a.funcs...)
	if a.takes[name] > left {
		a.simple()
		return
	}
	a.put("%s(", name)
	for n := range a.takes[name] {
		if n > 0 {
			a.put(", ")
		}
		a.value(depth-1, left-n)
	}
	a.put(")")
}

func TestRandomPrograms(t *testing.T) {
	r := rand.New(rand.NewSource(111))
	ended, long, wrong, faults := 0, 0, 0, map[int]int{}
	for range 2000 {
		text := (&author{Rand: r}).program()
		if _, err := lang.Check(text); err != nil {
			wrong++
			continue
		}
		stack := []int{512, 512, 200, 100, 60, 40, r.Intn(513)}[r.Intn(7)]
		o, err := lang.Eval(text, stack, mostSteps)
		if err != nil || !o.Ended {
			continue
		}
		_, ran := agree(t, text, stack)
		ended++
		faults[o.Fault]++
		if ran.instructions > 1000 {
			long++
		}
	}
	if ended < 1500 || faults[1] < 80 || faults[2] < 200 || long < 200 || wrong > 400 {
		t.Errorf("the programs are too much alike: %d ended, %d of them take long, %d are none, faults %v", ended, long, wrong, faults)
	}
}
