package lang_test

import (
	"fmt"
	"slices"
	"strings"
	"testing"

	"oocore/api"
	"oocore/lang"
	"oocore/plain"
)

// Each statement, block and part of an expression is a step.
func TestSteps(t *testing.T) {
	head := "var g; var a[3]; func f() {} func h(x) { return x; } func k(x, y) { return x; }"
	for _, c := range []struct {
		statements string
		steps      int // beside main's block
	}{
		{"", 0}, {"return 7;", 2}, {"return g;", 2}, {"return (((7)));", 2}, {"return -7;", 3}, {"return !~-7;", 5}, {"return 1 + 2;", 4}, {"return 1 + 2 * 3;", 6}, {"return a[1];", 3}, {"return a[a[0]];", 4}, {"return a[1 + 1];", 5},
		{"let x = 1;", 2}, {"g = 1;", 2}, {"a[1] = 2;", 3}, {"a[1] = a[2];", 4}, {"a[0 + 1] = 2 + 3;", 7}, {"print 65;", 2},
		{"if 1 {}", 3}, {"if 0 {}", 2}, {"if 1 {} else {}", 3}, {"if 0 {} else {}", 3}, {"if 1 { g = 1; } else { }", 5}, {"if 0 { } else { g = 1; g = 2; }", 7}, {"if g == 0 { print 1; }", 7},
		{"while 0 {}", 2}, {"while g < 2 { g = g + 1; }", 1 + 3*3 + 2*5}, {"while 1 { return 1; }", 5}, {"while 1 { while 1 { return g; } }", 8},
		{"f();", 3}, {"h(1);", 6}, {"k(1, 2);", 7}, {"return f();", 3}, {"return h(1);", 6}, {"return h(h(1));", 10}, {"let x = f() + f();", 6}, {"return a[f()];", 4}, {"a[f()] = f();", 5},
		{"return 0 && 1;", 3}, {"return 1 && 1;", 4}, {"return 0 || 1;", 4}, {"return 1 || 1;", 3}, {"return 0 && (1 + 2) || 3;", 5}, {"return 1 && (1 + 2) || 3;", 7}, {"return 1 || f();", 3}, {"return 0 || f();", 5},
		{"return 1; return 2;", 2}, {"g = 1; g = 2; g = 3;", 6}, {"if 1 { if 1 { if 1 { } } }", 9},
	} {
		takes(t, head+body(c.statements), 100, 1+c.steps)
	}
	takes(t, body(""), 10, 1)
	takes(t, "func f(x) { let y = x; return y; }"+body("let a = f(1); return a;"), 23, 11)
	takes(t, body("let i = 0; while i < 100 { i = i + 1; }"), 11, 1+2+1+101*3+100*5)
}

// A fault ends the program at once: what began counts, what would follow does not.
func TestStepsToAFault(t *testing.T) {
	head := "var g; var a[3]; func f() {} func h(x) { return x; }"
	for _, c := range []struct {
		statements string
		stack      int
		steps      int // beside main's block
		fault      int
	}{
		{"return a[3];", 10, 3, 1}, {"a[3] = 1;", 10, 3, 1}, {"return 1 + a[3] * 2;", 10, 6, 1}, {"return a[3] + 1 + 2;", 10, 5, 1}, {"return -a[3];", 10, 4, 1}, {"print a[3]; print 1;", 10, 3, 1}, {"if a[3] { } else { }", 10, 3, 1}, {"while a[3] { }", 10, 3, 1}, {"a[a[3]] = 1 + 2;", 10, 3, 1}, {"a[3] = 1 + a[4];", 10, 6, 1}, {"h(a[3]);", 30, 4, 1}, {"return h(1) + h(a[3]);", 30, 1 + 1 + 5 + 3, 1}, {"if 1 { a[9] = 1; g = 1; }", 10, 6, 1},
		{"f();", 19, 2, 2}, {"return f();", 19, 2, 2}, {"return h(1);", 20, 3, 2}, {"return h(h(1));", 20, 4, 2}, {"return 1 + f() + 2;", 19, 5, 2}, {"a[9] = f();", 19, 3, 2}, {"g = 1; return h(g);", 20, 5, 2}, {"while f() { }", 12, 2, 2},
	} {
		text := head + body(c.statements)
		takes(t, text, c.stack, 1+c.steps)
		if o := eval(t, "L6", text, c.stack, 1+c.steps); o.Fault != c.fault || o.Value != 0 {
			t.Errorf("L6: %q ends with %+v, want fault %d", c.statements, o, c.fault)
		}
	}
	// The call of main is no step.
	takes(t, body("return 7;"), 9, 0)
	fails(t, "L6", body("return 7;"), 9, 2, "")
	if o := eval(t, "L6", body("return 7;"), 10, 0); !isNothing(o) {
		t.Errorf("L6: without steps: %+v", o)
	}
}

// With any number of steps fewer nothing is told; with any number more the same.
func TestAnyNumberOfSteps(t *testing.T) {
	text := noted + "var a[2]; " + body("let i = 0; while i < 4 { print 65 + f(i); a[i & 1] = i; i = i + 1; } return a[i];")
	whole := eval(t, "L6", text, 100, 20000)
	if !whole.Ended || whole.Fault != 1 || whole.Out != "ABCD" || fmt.Sprint(whole.Globals) != "[123 2 3]" {
		t.Fatalf("L6: %+v", whole)
	}
	steps := 0
	for ; !eval(t, "L6", text, 100, steps).Ended; steps++ {
		if o := eval(t, "L6", text, 100, steps); !isNothing(o) {
			t.Errorf("L6: %d steps: %+v", steps, o)
		}
	}
	for k := range 200 {
		if o := eval(t, "L6", text, 100, steps+k); !same(o, whole) {
			t.Errorf("L6: %d steps: %+v, want %+v", steps+k, o, whole)
		}
	}
	for _, endless := range []string{body("while 1 {}"), "var g;" + body("while 1 { g = g + 1; print g; }"), body("let i = 0; while i < 1000000 { i = i + 1; }")} {
		if o := eval(t, "L6", endless, 512, 20000); !isNothing(o) {
			t.Errorf("L6: %q: %+v", endless, o)
		}
	}
	loop := "let i = 0; while i < 2498 { i = i + 1; } " // 19,991 steps, with main's block
	takes(t, body(loop+strings.Repeat("i = 1; ", 4)), 11, 19999)
	takes(t, body(loop+strings.Repeat("i = 1; ", 3)+"print -1;"), 11, 20000)
	if o := eval(t, "L6", body(loop+strings.Repeat("i = 1; ", 5)), 11, 20000); !isNothing(o) {
		t.Errorf("L6: 20,001 steps: %+v", o)
	}
}

// Stack and steps at their ends; Check's error is told first.
func TestBoundsOfEval(t *testing.T) {
	for _, text := range []string{body("return 7;"), body("while 1 {}")} {
		for _, stack := range []int{0, 1, 10, 511, 512} {
			for _, steps := range []int{0, 1, 19999, 20000} {
				eval(t, "L6", text, stack, steps)
			}
		}
	}
	const least = -1 << 63
	for _, c := range [][2]int{{-1, 1}, {513, 1}, {1, -1}, {1, 20001}, {-1, -1}, {513, 20001}, {least, 5}, {5, least}, {1<<63 - 1, 5}, {5, 1<<63 - 1}, {0, -1}, {512, 20001}, {-1, 0}, {513, 20000}} {
		o, err := lang.Eval(body("return 7;"), c[0], c[1])
		if plain.Told(err) != api.ErrRange || !isNothing(o) {
			t.Errorf("L6: a stack of %d, %d steps: %+v, %v", c[0], c[1], o, err)
		}
		for _, wrong := range []struct {
			text string
			err  api.Errno
		}{{"x", api.ErrSyntax}, {"", api.ErrLabel}, {strings.Repeat(" ", 8001), api.ErrImage}, {body("return " + deep(9) + ";"), api.ErrFull}, {"var a[0];", api.ErrRange}, {"var a[256]; var b[256]; var c;", api.ErrImage}} {
			if o, err := lang.Eval(wrong.text, c[0], c[1]); plain.Told(err) != wrong.err || !isNothing(o) {
				t.Errorf("L6: Eval(%q, %d, %d) = %+v, %v, want %v", shown(wrong.text), c[0], c[1], o, err, wrong.err)
			}
			if o, err := lang.Eval(wrong.text, 10, 10); plain.Told(err) != wrong.err || !isNothing(o) {
				t.Errorf("L6: Eval(%q) = %+v, %v, want %v", shown(wrong.text), o, err, wrong.err)
			}
		}
	}
}

// What came out may be written over: the next call tells the same.
func TestOutcomesAreFresh(t *testing.T) {
	text := "var g; var a[4];" + body("g = 1; a[0] = 2; a[3] = 3; print 65; return g;")
	first := eval(t, "P2", text, 100, 100)
	kept := slices.Clone(first.Globals)
	second := eval(t, "P2", text, 100, 100)
	for k := range first.Globals[:cap(first.Globals)] {
		first.Globals[:cap(first.Globals)][k] = 99
	}
	third := eval(t, "P2", text, 100, 100)
	if !slices.Equal(second.Globals, kept) || !slices.Equal(third.Globals, kept) || third.Out != "A" {
		t.Errorf("P2: globals %v, then %v, want %v", second.Globals, third.Globals, kept)
	}
}
