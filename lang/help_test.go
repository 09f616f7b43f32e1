package lang_test

import (
	"fmt"
	"slices"
	"strings"
	"testing"

	"oocore/api"
	"oocore/lang"
	"oocore/plain"
)

// shown is a text, cut short where it is long.
func shown(text string) string {
	if len(text) > 100 {
		return text[:100] + ".."
	}
	return text
}

// check is Check with the error's number.
func check(text string) (int, api.Errno) {
	line, err := lang.Check(text)
	return line, plain.Told(err)
}

// good: texts in which nothing is wrong.
func good(t *testing.T, promise string, texts ...string) {
	t.Helper()
	for _, text := range texts {
		if line, err := lang.Check(text); err != nil || line != 0 {
			t.Errorf("%s: Check(%q) = %d, %v", promise, shown(text), line, err)
		}
	}
}

// bad: a text whose first fault stands in a line.
func bad(t *testing.T, promise, text string, line int, want api.Errno) {
	t.Helper()
	if at, err := lang.Check(text); plain.Told(err) != want || at != line {
		t.Errorf("%s: Check(%q) = %d, %v, want %d, %v", promise, shown(text), at, err, line, want)
	}
}

// body is a program whose main has these statements.
func body(statements string) string { return "func main() {" + statements + "}" }

// whole is a program that comes to an expression.
func whole(expression string) string { return body("return " + expression + ";") }

// eval: an evaluation without an error.
func eval(t *testing.T, promise, text string, stack, steps int) api.Outcome {
	t.Helper()
	o, err := lang.Eval(text, stack, steps)
	if err != nil {
		t.Fatalf("%s: Eval(%q, %d, %d): %v", promise, shown(text), stack, steps, err)
	}
	return o
}

// comes: a program that ends without a fault, with a value.
func comes(t *testing.T, promise, text string, value int) {
	t.Helper()
	if o := eval(t, promise, text, 512, 20000); !o.Ended || o.Fault != 0 || o.Value != uint32(value) {
		t.Errorf("%s: %q comes to %+v, want %d", promise, shown(text), o, uint32(value))
	}
}

// prints: a program that ends without a fault, and prints.
func prints(t *testing.T, promise, text, out string) {
	t.Helper()
	if o := eval(t, promise, text, 512, 20000); !o.Ended || o.Fault != 0 || o.Out != out {
		t.Errorf("%s: %q comes to %+v, want %q", promise, shown(text), o, out)
	}
}

// fails: a program that ends with a fault; Value is 0.
func fails(t *testing.T, promise, text string, stack, fault int, out string, globals ...uint32) {
	t.Helper()
	o := eval(t, promise, text, stack, 20000)
	if !o.Ended || o.Fault != fault || o.Value != 0 || o.Out != out || !slices.Equal(o.Globals, globals) {
		t.Errorf("%s: %q comes to %+v, want fault %d, %q, %v", promise, shown(text), o, fault, out, globals)
	}
}

// takes: a program that needs so many steps, and no fewer.
func takes(t *testing.T, text string, stack, steps int) {
	t.Helper()
	if o := eval(t, "L6", text, stack, steps); !o.Ended {
		t.Errorf("L6: %q has not ended after %d steps", shown(text), steps)
	}
	if steps == 0 {
		return
	}
	if o := eval(t, "L6", text, stack, steps-1); !isNothing(o) {
		t.Errorf("L6: %q tells %+v after %d steps", shown(text), o, steps-1)
	}
}

func isNothing(o api.Outcome) bool {
	return !o.Ended && o.Out == "" && o.Value == 0 && o.Fault == 0 && len(o.Globals) == 0
}

func same(a, b api.Outcome) bool {
	return a.Ended == b.Ended && a.Out == b.Out && a.Value == b.Value && a.Fault == b.Fault && slices.Equal(a.Globals, b.Globals)
}

// lets are so many of them, each with a name of its own.
func lets(n int) string {
	var s strings.Builder
	for k := range n {
		fmt.Fprintf(&s, "let x%d = %d; ", k, k)
	}
	return s.String()
}
