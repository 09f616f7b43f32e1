package rules

import (
	"math/rand"
	"slices"
	"strings"
	"testing"

	"oocore/api"
	"oocore/lang"
	"oocore/plain"
)

// anySources are texts of all kinds: of each byte, of what programs are made of, of none of it, at the greatest length and above.
func anySources() []string {
	texts := []string{"", "\n", "\xff\xfe\xfd", "func main() {}\x80", strings.Repeat("a\n", 100000), strings.Repeat("/", 8000), strings.Repeat("9", 8000), strings.Repeat("_", 8000), "func main() { return 1" + strings.Repeat("+1", 3900) + "; }", "func main() { return 1" + strings.Repeat("&&1", 2600) + "; }", "func main() { return " + strings.Repeat("1*1+", 1900) + "1; }", "func main() { " + strings.Repeat("if 1 {} ", 990) + "}", strings.Repeat("var a;", 1333), strings.Repeat("func f(){}", 800)}
	parts := []string{"", "var", "func", "let", "if", "else", "while", "return", "print", "main", "x", "(", ")", "[", "]", "{", "}", ",", ";", "=", "-", "!", "||", "1", "4294967296", "12ab", "//", "\n", "()", "(){", "[1]", "=1;", "é", "$"}
	for _, a := range parts {
		texts = append(texts, strings.Repeat(a, 8000/max(len(a), 1)), strings.Repeat(a+" ", 8000/(len(a)+1)), "func main() { return "+strings.Repeat(a, 7900/max(len(a), 1)), strings.Repeat(a, 8001))
		for _, b := range parts {
			for _, c := range parts {
				texts = append(texts, a+b+c, "func main() { "+a+" "+b+" "+c+" }", "func main() { return "+a+" "+b+" "+c+"; }", a+" "+b+" "+c+" func main() { }")
			}
		}
	}
	for b := range 256 {
		sign := string([]byte{byte(b)})
		texts = append(texts, sign, sign+"func main() {}", "func main() {}"+sign, "func main() { return 1"+sign+"; }", "func main() { x"+sign+" = 1; }", "var a["+sign+"];")
	}
	return texts
}

// With an error nothing else is told but the line; without one, the line is 0.
func TestCheckAndEvalAnyText(t *testing.T) {
	for _, text := range anySources() {
		line, err := lang.Check(text)
		among(t, "Check", err, api.ErrImage, api.ErrRange, api.ErrFull, api.ErrSyntax, api.ErrLabel)
		told := plain.Told(err)
		switch {
		case err == nil && line != 0:
			t.Errorf("P1: Check(%.40q) = line %d, and no error", text, line)
		case line < 0 || line > strings.Count(text, "\n")+1:
			t.Errorf("P1: Check(%.40q) = line %d, %v", text, line, err)
		case line == 0 && told != api.OK && told != api.ErrImage && told != api.ErrLabel:
			t.Errorf("P1: Check(%.40q) = line %d, %v", text, line, err)
		}
		o, again := lang.Eval(text, 50, 500)
		if plain.Told(again) != told || err != nil && !isNothing(o) {
			t.Errorf("P1: Eval(%.40q) = %+v, %v, and Check tells %v", text, o, again, err)
		}
	}
}

func isNothing(o api.Outcome) bool {
	return !o.Ended && o.Out == "" && o.Value == 0 && o.Fault == 0 && len(o.Globals) == 0
}

func sameOutcome(a, b api.Outcome) bool {
	return a.Ended == b.Ended && a.Out == b.Out && a.Value == b.Value && a.Fault == b.Fault && slices.Equal(a.Globals, b.Globals)
}

func TestEvalOfAnyNumbers(t *testing.T) {
	const text = "var g; func f(n) { g = n; return f(n + 1); } func main() { print 1; return f(1); }"
	for _, stack := range append([]int{9, 10, 511, 512, 513}, extremes...) {
		for _, steps := range append([]int{2, 10, 19999, 20000, 20001}, extremes...) {
			o, err := lang.Eval(text, stack, steps)
			among(t, "Eval", err, api.ErrRange)
			if out := stack < 0 || stack > 512 || steps < 0 || steps > 20000; out != (err != nil) || out && !isNothing(o) {
				t.Errorf("P1: a stack of %d, %d steps: %+v, %v", stack, steps, o, err)
			}
			if _, err := lang.Eval("var main;", stack, steps); plain.Told(err) != api.ErrLabel {
				t.Errorf("P3: a stack of %d, %d steps, and a text that is wrong: %v", stack, steps, err)
			}
		}
	}
}

// The deepest and the longest evaluations end.
func TestEvalAtItsGreatest(t *testing.T) {
	long := "func f(n) { return " + strings.Repeat("(", 20) + "f(n) + 1" + strings.Repeat(")", 20) + "; } func main() { return f(0) " + strings.Repeat("+ 1 ", 1900) + "; }"
	for _, text := range []string{long, "func main() { while 1 { print 1; } }", "func main() { return main() || main(); }", "var n; func main() { n = n + 1; if n < 40 { main(); main(); } n = n - 1; }"} {
		if _, err := lang.Eval(text, 512, 20000); err != nil {
			t.Errorf("P1: Eval(%.60q): %v", text, err)
		}
	}
}

// What comes out is the caller's: written over, up to its capacity, it changes nothing else. The same call is answered alike, whatever other calls came in between.
func TestEvalsAreApart(t *testing.T) {
	r := rand.New(rand.NewSource(55))
	const text = "var g; var a[5]; func main() { let i = 0; while i < 5 { a[i] = i * i; g = g + a[i]; print 65 + i; i = i + 1; } return g; }"
	first, err := lang.Eval(text, 11, 1000)
	if err != nil || first.Value != 30 || first.Out != "ABCDE" || !slices.Equal(first.Globals, []uint32{30, 0, 1, 4, 9, 16}) {
		t.Fatalf("P2: %+v, %v", first, err)
	}
	others := anySources()
	for range 200 {
		other := others[r.Intn(len(others))]
		lang.Check(other)
		lang.Eval(other, r.Intn(513), r.Intn(20001))
		lang.Eval(text, r.Intn(12), r.Intn(300))
		again, err := lang.Eval(text, 11, 1000)
		if err != nil || !sameOutcome(first, again) {
			t.Fatalf("P2: another outcome, %+v, %v", again, err)
		}
		clear(again.Globals[:cap(again.Globals)])
	}
}
