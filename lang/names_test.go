package lang_test

import (
	"fmt"
	"strings"
	"testing"

	"oocore/api"
)

func TestThereIsAMain(t *testing.T) {
	good(t, "L4", "func main() {}", "func main() { main(); }", "func f(main_) {} func main() {}")
	for _, text := range []string{"", "\n\n", "// main", "var main;", "var main[3];\n", "func main(a) {}", "func main(a, b) {}\n\n", "func mai() {}", "var a; func f() {}", "func main_() {}", "var a[256];\nvar b[256];\n"} {
		bad(t, "L4", text, 0, api.ErrLabel)
	}
	// It is told in the end.
	bad(t, "L4", "\nfunc f() { x = 1; }", 2, api.ErrLabel)
	bad(t, "L4", "func main(a) {}\nvar a; var a;", 1, api.ErrLabel)
	bad(t, "L4", "func main(a) {}\nvar b; var b;", 2, api.ErrLabel)
}

func TestDeclaredTwice(t *testing.T) {
	kinds := []string{"var x;", "var x[2];", "func x() {}", "func x(a) {}"}
	for _, a := range kinds {
		for _, b := range kinds {
			bad(t, "L4", body("")+"\n"+a+"\n"+b+"\n", 3, api.ErrLabel)
			bad(t, "L4", "\n"+a+"\nvar y;\n\n"+b+"\n"+a+body(""), 5, api.ErrLabel)
		}
	}
	// The line is where the declaration begins.
	bad(t, "L4", body("")+"var x;\nvar\nx\n[\n2\n]\n;", 2, api.ErrLabel)
	bad(t, "L4", body("")+"var x;\nfunc\nx\n(\n)\n{\n}", 2, api.ErrLabel)
	bad(t, "L4", body("")+"\n"+body(""), 2, api.ErrLabel)
}

// In what follows the first of two declarations counts, also where the second is not yet reached.
func TestFirstDeclarationCounts(t *testing.T) {
	m := func(s string) string { return body(s) + "\n" }
	bad(t, "L4", m("x = 1;")+"var x;\nvar x[2];", 3, api.ErrLabel)
	bad(t, "L4", m("x = 1;")+"var x[2];\nvar x;", 1, api.ErrLabel)
	bad(t, "L4", m("x[1] = 1;")+"var x[2];\nvar x;", 3, api.ErrLabel)
	bad(t, "L4", m("x[1] = 1;")+"var x;\nvar x[2];", 1, api.ErrLabel)
	bad(t, "L4", m("x(1);")+"func x(a) {}\nfunc x() {}", 3, api.ErrLabel)
	bad(t, "L4", m("x(1);")+"func x() {}\nfunc x(a) {}", 1, api.ErrLabel)
	bad(t, "L4", m("x(1);")+"var x;\nfunc x(a) {}", 1, api.ErrLabel)
	bad(t, "L4", m("return x;")+"func x() {}\nvar x;", 1, api.ErrLabel)
	bad(t, "L4", "func main() {}\nfunc main(a) {}", 2, api.ErrLabel)
	bad(t, "L4", "func main(a) {}\nfunc main() {}", 2, api.ErrLabel)
}

func TestGlobalWords(t *testing.T) {
	m := body("") + "\n"
	good(t, "L4", m+"var a[256]; var b[256];", m+"var a[256]; var b[255]; var c;", "var a[256]; var b[254]; var c; var d;"+m)
	bad(t, "L4", m+"var a[256]; var b[256];\nvar c;", 3, api.ErrImage)
	bad(t, "L4", m+"var a[256]; var c;\nvar\nb[256];\nvar d[256];", 3, api.ErrImage)
	bad(t, "L4", m+"var a[256]; var b[255]; var c;\nvar d[1];", 3, api.ErrImage)
	bad(t, "L4", m+"var a[200];\nvar b[200];\nvar c[113];", 4, api.ErrImage)
	good(t, "L4", m+"var a[200];\nvar b[200];\nvar c[112];")
	// A name that was there is told first, and what stands ahead of it, too.
	bad(t, "L4", m+"var a[256]; var b[256];\nvar a;", 3, api.ErrLabel)
	bad(t, "L4", "var a[256];\nfunc main() { x = 1; }\nvar b[256]; var c;", 2, api.ErrLabel)
	bad(t, "L4", "var a[256];\nvar b[256]; var c;\nfunc main() { x = 1; }", 2, api.ErrImage)
	bad(t, "L4", "func f() { c = 1; }\nvar a[256]; var b[256];\nvar c;", 3, api.ErrImage)
	many := func(n int) string {
		var s strings.Builder
		for k := range n {
			fmt.Fprintf(&s, "var v%d;\n", k)
		}
		return s.String()
	}
	good(t, "L4", many(512)+m)
	bad(t, "L4", many(513)+m, 513, api.ErrImage)
}

// Each kind of name where each kind may stand.
func TestNamesOfEachKind(t *testing.T) {
	head := "var g; var a[3]; var one[1]; func f() {} func h(x) { return x; }\nfunc main() { let l = 1;\n"
	for _, s := range []string{"return g;", "return l;", "return a[0];", "return f();", "return h(1);", "g = 1;", "l = 1;", "a[0] = 1;", "f();", "h(1);", "let m = g; return m;", "g = g; l = l;", "return h(h(l)) + a[a[g]];"} {
		good(t, "L4", head+s+"}")
	}
	for _, s := range []string{
		"return a;", "return one;", "one = 1;", "return f;", "return h;", "return z;", "return main;", "a = 1;", "f = 1;", "z = 1;", "main = 1;",
		"return g[0];", "return l[0];", "return f[0];", "return z[0];", "g[0] = 1;", "l[0] = 1;", "f[0] = 1;", "z[0] = 1;",
		"return g();", "return a();", "return l();", "return z();", "g();", "a();", "l();", "z();", "return a(1);", "l(1);",
		"return f(1);", "return h();", "return h(1, 2);", "f(1);", "h();", "h(1, 2);", "main(1);", "return h(f(1));", "return f(h(1));", "return x;",
	} {
		bad(t, "L4", head+s+"}", 3, api.ErrLabel)
	}
}

// The line is that of the NAME, and the first NAME is told first.
func TestOrderOfNames(t *testing.T) {
	head := "var g; var a[3]; func f(x) {} func k(x, y) {} func main() { let l = 1;"
	for _, s := range []string{
		"\nz\n=\ny\n;", "\nz\n[\ny\n]\n=\nx\n;", "\nz\n(\ny\n)\n;", "\nf\n(\ny\n,\nx\n)\n;", "return\nz\n+\ny\n;", "let q =\nz\n;", "print\nz;", "if\nz\n{ y = 1; }", "while\nz\n{ y = 1; }",
		"g =\nz;", "a[\nz]\n=\ny;", "a[1] =\nz\n;", "f(\nz);", "k(\nz,\ny);", "k(1,\nz);", "return a[\nz\n];", "return\nz[\ny];", "return f(\nz);", "return\nz(\ny);", "return k(\nz,\ny);", "return -\nz;", "return !(\nz);", "return ((\nz) +\ny);", "return 1 + 2 *\nz +\ny;", "return 1 && 0 &&\nz;",
		"if 1 {\nz = 1; } else {\ny = 1; }", "if 1 { } else {\ny = 1; }\nz = 1;", "while 0 {\nz = 1; }\ny = 1;", "let q =\nz\n+ q;", "let q =\nq;", "print 1; return\nz;", "a[f(\nz)] =\ny;", "return k(a[\nz], \ny);", "if 0 { return\nz; }",
	} {
		bad(t, "L4", head+s+"}", 2, api.ErrLabel)
		if strings.Contains(s, "else") || strings.Contains(s, "while") {
			continue
		}
		bad(t, "L4", head+"if 1 {"+s+"}}", 2, api.ErrLabel)
	}
}

func TestVisible(t *testing.T) {
	comes(t, "L4", body("let x = 1; if 1 { let y = x; x = y + 1; } return x;"), 2)
	comes(t, "L4", body("if 1 { let x = 1; } else { let x = 2; } let x = 3; return x;"), 3)
	comes(t, "L4", body("if 1 { let x = 1; } while 0 { let x = 2; } if 0 { } else { let x = 4; } return 5;"), 5)
	comes(t, "L4", "func f(x) { let y = x; return y; } func k(x, y) { return x + y; }"+body("let x = 3; let y = 4; return f(x) * k(x, y);"), 21)
	comes(t, "L4", body("let i = 0; let s = 0; while i < 4 { let j = i * i; s = s + j; i = i + 1; } return s;"), 14)
	for _, s := range []string{
		"if 1 { let x = 1; }\nx = 2;", "if 1 { let x = 1; } else {\nx = 2; }", "while 0 { let x = 1; }\nx = 2;", "if 1 { if 1 { let x = 1; }\nx = 2; }", "if 1 { } else { let x = 1; }\nprint x;", "\nx = 1; let x = 2;", "let y =\nx; let x = 2;", "while\nx { let x = 1; }", "if\nx { let x = 1; }",
		"let x =\nx;", "let x =\nx + 1;", "let x = 1; let y =\ny;", "if 1 { let x = 1; let y = 2; } let y = 3;\nx = y;",
	} {
		bad(t, "L4", body(s), 2, api.ErrLabel)
	}
	// The locals of one func are not those of another.
	bad(t, "L4", "func f(x) { let y = 1; }\nfunc main() { x = 1; }", 2, api.ErrLabel)
	bad(t, "L4", "func f(x) { let y = 1; }\nfunc main() { y = 1; }", 2, api.ErrLabel)
	bad(t, "L4", "func main() { let y = 1; f(y); }\nfunc f(x) { return y; }", 2, api.ErrLabel)
}

func TestLocalsDeclared(t *testing.T) {
	for _, s := range []string{
		"let x = 1;\nlet x = 2;", "let x = 1; if 1 {\nlet x = 2; }", "let x = 1; while 0 { if 1 {\nlet\nx\n=\n2; } }", "if 1 { let x = 1; if 1 { } else {\nlet x = 2; } }", "let x = 1;\nlet x = x;", "let x = 1;\nlet\nx =\nx;",
		"\nlet g = 1;", "\nlet a = 1;", "\nlet f = 1;", "\nlet main = 1;", "\nlet late = 1;", "\nlet latef = 1;", "if 1 {\nlet g = 1; }", "\nlet g = g;", "\nlet g = f();",
	} {
		bad(t, "L4", "var g; var a[2]; func f() {}"+body(s)+" var late; func latef() {}", 2, api.ErrLabel)
	}
	for _, s := range []string{"func q(x, x) {}", "func q(x, y, x) {}", "func\nq\n(x,\nx) {}", "func q(g) {}", "func q(x, a) {}", "func q(f) {}", "func q(q) {}", "func q(main) {}", "func q(late) {}", "func q(x,\nlate) { x = z; }"} {
		bad(t, "L4", "var g; var a[2]; func f() {}"+body("")+"\n"+s+"\nvar late;", 2, api.ErrLabel)
	}
	for _, s := range []string{"func q(x) {\nlet x = 1; }", "func q(x, y) { if 1 {\nlet y = 1; } }", "func q(x) { let y = 1;\nlet y = x; }"} {
		bad(t, "L4", body("")+s, 2, api.ErrLabel)
	}
	// The expression of a let is looked at ahead of its name.
	bad(t, "L4", "var g;"+body("let\ng =\nz;"), 3, api.ErrLabel)
	bad(t, "L4", "var g;"+body("let\ng =\n1 + (1 + (1 + (1 + (1 + (1 + (1 + (1 + 1)))))));"), 3, api.ErrFull)
	bad(t, "L4", "var g;"+body("\nlet\ng =\n1;"), 2, api.ErrLabel)
}

func TestLocalsOfAFunc(t *testing.T) {
	good(t, "L4", body(lets(24)), body(lets(12)+"if 1 {"+strings.ReplaceAll(lets(12), "x", "y")+"}"), "func f(a, b, c, d, e, g) {"+lets(18)+"}"+body(lets(24)))
	bad(t, "L4", body(lets(24)+"\nlet\nz\n=\n1;"), 2, api.ErrFull)
	bad(t, "L4", body(lets(12)+"if 1 {"+strings.ReplaceAll(lets(12), "x", "y")+"}\nlet z = 1;"), 2, api.ErrFull)
	bad(t, "L4", body("if 1 {"+lets(12)+"} else {"+lets(12)+"} if 1 {\nlet x0 = 1; }"), 2, api.ErrFull)
	bad(t, "L4", "func f(a, b, c, d, e, g) {"+lets(18)+"\nlet z = 1; }"+body(""), 2, api.ErrFull)
	bad(t, "L4", "func f(a) {"+lets(23)+"\nlet z = 1; }"+body(""), 2, api.ErrFull)
	// A name that is visible, or declared, is told first; so is what is wrong with the expression.
	bad(t, "L4", body(lets(24)+"\nlet x3 = 1;"), 2, api.ErrLabel)
	bad(t, "L4", body(lets(24)+"\nlet main = 1;"), 2, api.ErrLabel)
	bad(t, "L4", body(lets(24)+"\nlet z =\nz;"), 3, api.ErrLabel)
	bad(t, "L4", body(lets(24)+"\nlet z = 1;\nlet x3 = 1;"), 2, api.ErrFull)
}

// A syntax fault, or a number out of range, anywhere comes ahead of all names.
func TestSyntaxAheadOfNames(t *testing.T) {
	bad(t, "L3, L4", "var a; var a;\nfunc main() { x = 1; }\n$", 3, api.ErrSyntax)
	bad(t, "L3, L4", "func main(a) { x = 1; }\nvar abcdefghijklmnopq;", 2, api.ErrRange)
	bad(t, "L3, L4", body(lets(30))+"\nvar a[0];", 2, api.ErrRange)
	bad(t, "L3, L4", "var a[256]; var b[256]; var c[256];\n}", 2, api.ErrSyntax)
	bad(t, "L3, L4", body("let a = a;")+"\nfunc f(", 2, api.ErrSyntax)
	// Of two faults of L3 the one that stands ahead.
	bad(t, "L3", "var a[0];\n$", 1, api.ErrRange)
	bad(t, "L3", "$\nvar a[0];", 1, api.ErrSyntax)
	// Of two of L4, too.
	bad(t, "L4", "func f() { x = 1; }\nvar a; var a;", 1, api.ErrLabel)
	bad(t, "L4", "var a; var a;\nfunc f() { x = 1; }", 1, api.ErrLabel)
	bad(t, "L4", "func f() { return 1+(1+(1+(1+(1+(1+(1+(1+1))))))); }\nfunc f() { x = 1; }", 1, api.ErrFull)
}
