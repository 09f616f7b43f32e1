package lang_test

import (
	"fmt"
	"strings"
	"testing"

	"oocore/api"
)

func TestExamplesOfCheck(t *testing.T) {
	for _, c := range []struct {
		text string
		line int
		err  api.Errno
	}{
		{"func main() { return 1 }", 1, api.ErrSyntax}, {"func main() { return 12ab; }", 1, api.ErrSyntax}, {"func main() { { let i = 1; } }", 1, api.ErrSyntax}, {"var abcdefghijklmnopq;", 1, api.ErrRange}, {"var a; var a; func main() {}", 1, api.ErrLabel}, {"func main() {\nx = 1; }", 2, api.ErrLabel}, {"func main() { let a = a; }", 1, api.ErrLabel}, {"func f(x) { let x = 1; } func main() {}", 1, api.ErrLabel}, {"var a[2]; func main() { a = 1; }", 1, api.ErrLabel},
		{"func main() { return 1 + (2 + (3 + (4 + (5 + (6 + (7 + (8 + 9))))))); }", 1, api.ErrFull}, {"func main() { x = " + strings.Repeat("(", 23) + " ;", 1, api.ErrRange}, {"func main() { x = " + strings.Repeat("(", 22) + " ;", 1, api.ErrSyntax}, {"func f(a, b, c, d, e, g) {} func main() { f(1, 2, 3, 4, 5, 1 + (2 + (3 + 4))); }", 1, api.ErrFull}, {"func main(a) {}", 0, api.ErrLabel}, {"", 0, api.ErrLabel},
	} {
		bad(t, "L1 to L4", c.text, c.line, c.err)
	}
}

func TestExamplesOfEval(t *testing.T) {
	summed := "var g; var a[3]; func f(n) { g = g + n; if n < 1 { return 0; } return f(n - 1); } func main() { a[1] = f(3); a[2] = 5; return g; }"
	for _, c := range []struct {
		text         string
		stack, steps int
		want         string
	}{
		{"func main() { return 7; }", 10, 3, "true  7 0 []"}, {"func main() { return 7; }", 10, 2, "false  0 0 []"}, {"func main() { return 7; }", 9, 3, "true  0 2 []"},
		{"func main() { print 65; print 321; return -7 / 2 * 10 + -7 % 2; }", 10, 100, "true AA 4294967265 0 []"},
		{summed, 54, 100, "true  6 0 [6 0 0 5]"}, {summed, 53, 100, "true  0 2 [6 0 0 0]"},
		{"func main() { let i = 0; while i < 3 { print 65 + i; i = i + 1; } return i; }", 11, 100, "true ABC 3 0 []"},
		{"var a[2]; func main() { a[2] = 1; }", 512, 100, "true  0 1 [0 0]"}, {"func f() { return f(); } func main() { return f(); }", 512, 20000, "true  0 2 []"},
	} {
		o := eval(t, "L5, L6", c.text, c.stack, c.steps)
		if got := fmt.Sprint(o.Ended, " ", o.Out, " ", o.Value, " ", o.Fault, " ", o.Globals); got != c.want {
			t.Errorf("L5, L6: Eval(%q, %d, %d) = %s, want %s", c.text, c.stack, c.steps, got, c.want)
		}
	}
}
