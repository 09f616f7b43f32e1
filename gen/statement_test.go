package gen_test

import (
	"fmt"
	"strings"
	"testing"
)

func TestEveryStatement(t *testing.T) {
	comes(t, body(""), 10, 0)
	comes(t, body("let x = 3;"), 11, 0)
	comes(t, body("let x = 3; return x;"), 11, 3)
	comes(t, body("let x = 3; x = x * x; return x;"), 11, 9)
	comes(t, "var g;"+body("g = 4; return g;"), 10, 4)
	comes(t, "var a[4];"+body("a[3] = 4; a[0] = 1; return a[3] * 10 + a[0];"), 10, 41)
	comes(t, "var g; func f() { g = 5; return 9; }"+body("f(); return g;"), 20, 5)
	comes(t, "func f(x) { return x; } "+body("f(1); f(2);"), 21, 0)
	comes(t, body("return 1; return 2;"), 10, 1)
	comes(t, body("if 1 { return 1; } return 2;"), 10, 1)
	comes(t, body("if 0 { return 1; } return 2;"), 10, 2)
	comes(t, body("if 2 { return 1; } else { return 2; }"), 10, 1)
	comes(t, body("if 0 { return 1; } else { return 2; } return 3;"), 10, 2)
	comes(t, body("if 0 { } else { } return 3;"), 10, 3)
	comes(t, body("if 1 { } else { return 1; } return 3;"), 10, 3)
	comes(t, body("while 0 { return 1; } return 2;"), 10, 2)
	comes(t, body("while 5 { return 1; } return 2;"), 10, 1)
	comes(t, body("let i = 9; while i { i = i - 1; } return i - 1;"), 11, -1)
	comes(t, body("let i = 9; while i > 0 { let j = i; while j > 0 { j = j - 1; if i * j == 30 { return i * 100 + j; } } i = i - 1; }"), 12, 605)
}

// A value that is not 0 is true, whichever bit it is.
func TestTruth(t *testing.T) {
	for _, e := range edges {
		is := 0
		if e != 0 {
			is = 1
		}
		comes(t, body(fmt.Sprintf("if %d { return 1; } return 0;", e)), 10, is)
		comes(t, body(fmt.Sprintf("if %d { return 1; } else { return 0; }", e)), 10, is)
		comes(t, body(fmt.Sprintf("while %d { return 1; } return 0;", e)), 10, is)
		comes(t, whole(fmt.Sprintf("!!%d", e)), 10, is)
		for _, sign := range []string{"&&", "||"} {
			agree(t, whole(fmt.Sprintf("%d %s 1", e, sign)), 10)
			agree(t, whole(fmt.Sprintf("%d %s 0", e, sign)), 10)
			agree(t, whole(fmt.Sprintf("0 %s %d", sign, e)), 10)
			agree(t, whole(fmt.Sprintf("7 %s %d", sign, e)), 10)
		}
	}
}

// Every byte is printed, and the low one of every word.
func TestPrint(t *testing.T) {
	o, _ := agree(t, body("let i = 0; while i < 256 { print i; i = i + 1; }"), 11)
	for b := range 256 {
		if len(o.Out) != 256 || o.Out[b] != byte(b) {
			t.Fatalf("G2: %q is printed", o.Out)
		}
	}
	for _, e := range edges {
		o, _ := agree(t, body(fmt.Sprintf("print %d; print 10;", e)), 10)
		if o.Out != string([]byte{byte(e), 10}) {
			t.Errorf("G2: print %d prints %q", e, o.Out)
		}
	}
	o, _ = agree(t, "func f() { print 65; return 66; } func g() { print f(); print f(); return 67; }"+body("print g(); print f() + 1;"), 100)
	if o.Out != "ABABCAC" {
		t.Errorf("G2: %q is printed", o.Out)
	}
}

// A let in a loop begins anew in each round; one behind its block has a word of its own.
func TestLocals(t *testing.T) {
	comes(t, body("let i = 0; let s = 0; while i < 5 { let k = i; k = k + 1; s = s * 10 + k; i = i + 1; } return s;"), 13, 12345)
	comes(t, body("if 1 { let a = 1; } let b = 2; if 1 { let a = b + 3; b = a; } return b;"), 13, 5)
	comes(t, "func f(a, b) { a = a + 1; b = b + 2; return a * b; }"+body("let a = 3; let b = 4; let c = f(a, b); return a * 1000 + b * 100 + c;"), 25, 3424)
	// All of 24, as lets and as parameters and lets, hold their own.
	var sum strings.Builder
	for k := range 24 {
		fmt.Fprintf(&sum, "s = s * 3 + x%d; ", k)
	}
	agree(t, "var s;"+body(lets(24)+sum.String()+"return s;"), 34)
	fails(t, "var s;"+body(lets(24)+sum.String()+"return s;"), 33, 2, "", 0)
	agree(t, "var s; func f(x0, x1, x2, x3, x4, x5) {"+strings.Join(strings.SplitAfter(lets(24), "; ")[6:], "")+sum.String()+"return s; }"+body("return f(9, 8, 7, 6, 5, 4);"), 44)
	fails(t, "var s; func f(x0, x1, x2, x3, x4, x5) {"+strings.Join(strings.SplitAfter(lets(24), "; ")[6:], "")+sum.String()+"return s; }"+body("return f(9, 8, 7, 6, 5, 4);"), 43, 2, "", 0)
}

// The global words stand in the order of the text, whatever stands between.
func TestGlobals(t *testing.T) {
	_, f := agree(t, "var a; func k() { a = 1; b[0] = 2; b[2] = 3; c = 4; d[0] = 5; e = 6; } var b[3]; var c; func main() { k(); } var d[1]; var e;", 20)
	if got := fmt.Sprint(f.data[:7]); got != "[1 2 0 3 4 5 6]" {
		t.Errorf("G2: the global words are %s", got)
	}
	// Up to the last of 512.
	comes(t, "var a[256]; var b[255]; var g;"+body("g = 7; b[254] = 8; a[255] = 9; a[0] = 1; return g * 100 + b[254] * 10 + a[255];"), 10, 789)
	comes(t, "var a[256]; var b[256];"+body("b[255] = 8; b[0] = 3; a[255] = 9; return b[255] * 100 + b[0] * 10 + a[255];"), 512, 839)
	var many strings.Builder
	for k := range 512 {
		fmt.Fprintf(&many, "var g%d;", k)
	}
	comes(t, many.String()+body("g0 = 5; g511 = 6; g255 = 7; g510 = 8; return g0 * 1000 + g511 * 100 + g255 * 10 + g510;"), 10, 5678)
	fails(t, "var a[256]; var b[256];"+body("b[255] = 8; return b[256];"), 10, 1, "", append(make([]uint32, 511), 8)...)
	fails(t, "var a[256]; var b[256];"+body("return 1;"), 0, 2, "", make([]uint32, 512)...)
}

// Names are no labels of the compiler's own, and no instructions, nor registers.
func TestNamesOfFunctions(t *testing.T) {
	for _, name := range strings.Fields("x0 x5 x10 zero ra sp a0 fp nop li j call ret addi add lw ebreak l1 l2 index stack end _ __ abcdefghijklmnop a_23456789012345 i n e8 x1f") {
		text := "var a[2]; func " + name + "(p) { if p > 2 { return a[p - 2]; } a[1] = 5; while p < 3 && 1 { p = p + 1; } return " + name + "(p); }"
		comes(t, text+whole(name+"(1) + "+name+"(0)"), 60, 10)
	}
}
