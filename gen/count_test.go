package gen_test

import (
	"strings"
	"testing"
)

// Programs that take as many instructions for a step as they can: agree holds each against the bound.
func TestInstructions(t *testing.T) {
	for _, f := range forms() {
		agree(t, f.text(600), 200)
	}
	many := "func f(a, b, c, d, e, g) { } func k() { } func z(a, b, c, d, e, g) { return f(g, k(), k(), k(), k(), k()); }"
	for _, c := range []struct {
		text  string
		stack int
	}{
		{body(""), 0}, {body(""), 10}, {body("return 4000000000;"), 10}, {many + body("f(1, 2, 3, 4, 5, 6);"), 9}, {many + body("f(1, 2, 3, 4, 5, 6);"), 10}, {many + body("f(1, 2, 3, 4, 5, 6);"), 26},
		{many + body("let i = 0; while i < 50 { f(k(), k(), k(), k(), k(), k()); i = i + 1; }"), 60},
		{many + body("let i = 0; while i < 50 { z(99999, 99999, 99999, 99999, k(), k()); i = i + 1; }"), 60},
		{many + body("let i = 0; while i < 300 { k(); i = i + 1; }"), 60},
		{"func f(n) { if n { f(n - 1); f(n - 1); } }" + body("f(9);"), 512},
		{"var a[256];" + body("let i = 0; while i < 256 { a[i] = a[255 - i] + i; a[a[i] & 255] = a[a[a[i] & 255] & 255]; i = i + 1; }"), 11},
		{"var a[2];" + body("while 1 { a[a[a[a[a[a[a[a[0]]]]]]]] = a[a[a[a[a[a[a[a[0]]]]]]]] <= 99999; a[a[0] || a[1]] = 2; a[0] = a[0] + 1; }"), 10},
		{"var a[2];" + body("let i = 0; while i < 30 { i = i + 1; "+strings.Repeat("a[a[a[a[a[a[0]]]]]] = a[a[a[a[a[a[0]]]]]]; ", 20)+"}"), 11},
	} {
		agree(t, c.text, c.stack)
	}
}
