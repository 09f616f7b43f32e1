package run_test

import (
	"fmt"
	"math/rand"
	"strings"
	"testing"

	"oocore/api"
	"oocore/lang"
	"oocore/run"
)

// author writes programs of the small language in which nothing is wrong: expressions are never so deep that they need more than there may be.
type author struct {
	*rand.Rand
	visible []string
	locals  int
	size    int // of the array
}

func (a *author) one(of ...string) string { return of[a.Intn(len(of))] }

// program has functions that stop calling when they were called often.
func (a *author) program() string {
	a.size = 1 + a.Intn(12)
	text := fmt.Sprintf("var n; var g; var a[%d]; ", a.size)
	fuel := 1 + a.Intn(14)
	for _, name := range []string{"f", "k"} {
		a.visible, a.locals = []string{"x", "y"}, 2
		text += fmt.Sprintf("func %s(x, y) { n = n + 1; if n > %d { return x - y; } %s return %s; } ", name, fuel, a.statements(2), a.value(3))
	}
	a.visible, a.locals = []string{"n"}, 0
	return text + "func main() { " + a.statements(3) + a.one("", "return "+a.value(4)+"; ") + "}"
}

func (a *author) statements(depth int) string {
	visible, s := len(a.visible), ""
	for range 1 + a.Intn(4) {
		s += a.statement(depth)
	}
	a.visible = a.visible[:visible]
	return s
}

func (a *author) statement(depth int) string {
	switch n := a.Intn(12); {
	case n < 2 && a.locals < 20:
		name := a.local()
		s := fmt.Sprintf("let %s = %s; ", name, a.value(3))
		a.visible = append(a.visible, name)
		return s
	case n < 4:
		return fmt.Sprintf("%s = %s; ", a.one("g", "g", a.visible[a.Intn(len(a.visible))]), a.value(4))
	case n < 6:
		return fmt.Sprintf("a[%s] = %s; ", a.index(2), a.value(3))
	case n == 6:
		return fmt.Sprintf("%s(%s, %s); ", a.one("f", "k"), a.value(2), a.value(2))
	case n == 7:
		return fmt.Sprintf("print %s; ", a.value(3))
	case n < 10 && depth > 0:
		return fmt.Sprintf("if %s { %s} else { %s} ", a.value(3), a.statements(depth-1), a.statements(depth-1))
	case depth > 0 && a.locals < 20:
		name := a.local()
		return fmt.Sprintf("let %s = 0; while %s < %d { %s = %s + 1; %s} ", name, name, 1+a.Intn(5), name, name, a.statements(depth-1))
	}
	return fmt.Sprintf("g = g + %d; ", a.Intn(9))
}

func (a *author) local() string {
	a.locals++
	return fmt.Sprintf("l%d", a.locals)
}

// index is within the array most of the time.
func (a *author) index(depth int) string {
	if a.Intn(12) == 0 {
		return a.value(depth)
	}
	if a.Intn(2) == 0 {
		return fmt.Sprint(a.Intn(a.size))
	}
	return fmt.Sprintf("(%s & 255) %% %d", a.value(depth), a.size)
}

func (a *author) value(depth int) string {
	switch n := a.Intn(12); {
	case depth > 0 && n < 4:
		return fmt.Sprintf("(%s %s %s)", a.value(depth-1), a.one(strings.Fields("|| && | ^ & == != < <= > >= << >> + - * / %")...), a.value(depth-1))
	case depth > 0 && n == 4:
		return a.one("-", "!", "~") + a.value(depth-1)
	case depth > 0 && n == 5:
		return "a[" + a.index(depth-1) + "]"
	case depth > 0 && n == 6:
		return fmt.Sprintf("%s(%s, %s)", a.one("f", "k"), a.value(depth-1), a.value(depth-1))
	case n < 9:
		return a.one("g", a.visible[a.Intn(len(a.visible))])
	}
	return a.one("0", "1", "2", "3", "31", "255", "2047", "2048", "4294967295", "2147483648", fmt.Sprint(a.Uint32()))
}

// Random programs, each on cores of some makes, in just as many cycles as are enough.
func TestRandomSources(t *testing.T) {
	r := rand.New(rand.NewSource(77))
	ended, long, faults := 0, 0, map[int]int{}
	for range 400 {
		text := (&author{Rand: r}).program()
		if line, err := lang.Check(text); err != nil {
			t.Fatalf("%s: line %d, %v", text, line, err)
		}
		stack := []int{512, 512, 100, 60, 30, r.Intn(513)}[r.Intn(6)]
		want, steps := meant(t, text, stack)
		if steps < 0 || enough(steps) > api.MaxCycles {
			long++
			continue
		}
		ended++
		faults[want.Fault]++
		agrees(t, text, stack, slowest(), anyMake(r), anyMake(r))
		c := anyMake(r)
		cycles := cyclesOf(t, text, stack, c)
		if o, err := run.Source(text, stack, c, cycles-1); err != nil || !isNothing(o) {
			t.Fatalf("R2: %s on %+v, %d cycles of %d: %+v, %v", text, c, cycles-1, cycles, o, err)
		}
	}
	if ended < 300 || faults[0] < 100 || faults[1] < 15 || faults[2] < 15 {
		t.Errorf("the programs are too much alike: %d end, %d take long, faults %v", ended, long, faults)
	}
}

// What takes the most cycles a step: calls, around which much is kept, whose frames stand in other lines.
func TestCyclesAreEnough(t *testing.T) {
	held := "1-(1-(1-(1-(1-(1-("
	for _, text := range []string{
		"func k() {} func main() { return " + held + "k()" + strings.Repeat("+k()", 60) + ")))))); }",
		"func k(a) {} func main() { return " + strings.Repeat("k(", 20) + "1" + strings.Repeat(")", 20) + "; }",
		"func k(a, b, c, d, e, f) {} func main() { " + strings.Repeat("k(1, 1, 1, 1, 1, 1); ", 40) + "}",
		"func k(a, b, c, d, e, f) { return k(a, b, c, d, e, f); } func main() { k(1, 2, 3, 4, 5, 6); }",
		"var a[256]; func main() { let i = 1; while i < 30 { a[i * 8] = a[255 - i * 8] / a[i * 8 + 4] % i; i = i + 1; } }",
		"func main() { }", "func main() { return 1 / 1; }", "var a[1]; func main() { a[1] = 1; }",
	} {
		agrees(t, text, 512, slowest(), least(), greatest(), plainly())
	}
}
