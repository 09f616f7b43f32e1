package lang_test

import (
	"strings"
	"testing"

	"oocore/api"
)

// deep is an expression that needs n temporaries, by operations that are nested on the right.
func deep(n int) string {
	return strings.Repeat("1 + (", n-1) + "1" + strings.Repeat(")", n-1)
}

const manyFuncs = "var g; var a[9]; func f0() {} func f1(x) { return x; } func f2(x, y) {} func f3(x, y, z) {} func f6(p, q, r, s, u, v) {} "

// needs: an expression needs n, at 1 and at each number more: what is built around it tells how much.
func needs(t *testing.T, expression string, n int) {
	t.Helper()
	for more := range 9 {
		text := manyFuncs + body("return\n"+strings.Repeat("1 + (", more)+expression+strings.Repeat(")", more)+";")
		if n+more <= 8 {
			good(t, "L4", text)
		} else {
			bad(t, "L4", text, 2, api.ErrFull)
		}
	}
}

func TestNeeds(t *testing.T) {
	for _, c := range []struct {
		expression string
		n          int
	}{
		{"1", 1}, {"g", 1}, {"(1)", 1}, {"((g))", 1}, {"a[1]", 1}, {"a[a[a[1]]]", 1}, {"f0()", 1}, {"-1", 1}, {"!g", 1}, {"~-!a[1]", 1}, {"-(1 + 2)", 2}, {"!(1 + (2 + 3))", 3}, {"~f1(1 + 2)", 2}, {"a[1 + 2]", 2}, {"a[1 + (2 + 3)]", 3}, {"a[f2(1, 2)]", 2},
		{"1 + 2", 2}, {"1 + 2 + 3 + 4 + 5 + 6 + 7 + 8 + 9", 2}, {"1 + (2 + 3)", 3}, {"(1 + 2) + 3", 2}, {"(1 + 2) + (3 + 4)", 3}, {"1 + 2 * 3", 3}, {"1 * 2 + 3", 2}, {"(1 + (2 + 3)) + 4", 3}, {"(1 + (2 + (3 + 4))) + (5 + 6)", 4}, {"1 | 2 ^ 3 & 4 == 5 < 6", 6}, {"1 < 2 == 3 & 4 ^ 5 | 6", 2},
		{"1 && 2", 1}, {"1 || 2", 1}, {"1 && 2 || 3 && 4", 1}, {"1 && (2 && (3 && 4))", 1}, {"1 && 2 + 3", 2}, {"1 + 2 && 3", 2}, {"1 || (2 + (3 + 4))", 3}, {"(1 + (2 + 3)) || 4", 3}, {"1 + (2 && 3)", 2}, {"(1 && 2) + 3", 2}, {"1 + (2 || 3 + 4)", 3},
		{"f1(1)", 1}, {"f1(1 + 2)", 2}, {"f1(1 + (2 + 3))", 3}, {"f2(1, 2)", 2}, {"f3(1, 2, 3)", 3}, {"f6(1, 2, 3, 4, 5, 6)", 6}, {"f2(1 + 2, 3)", 2}, {"f2(1 + (2 + 3), 4)", 3}, {"f2(1, 2 + 3)", 3}, {"f3(1, 2, 3 + 4)", 4}, {"f3(1 + (2 + (3 + (4 + 5))), 6, 7)", 5}, {"f3(1, 2 + (3 + 4), 5)", 4}, {"f6(1, 2, 3, 4, 5, 6 + 7)", 7}, {"f6(1, 2, 3, 4, 5, 6 + (7 + 8))", 8}, {"f6(f6(1, 2, 3, 4, 5, 6), 2, 3, 4, 5, 6)", 6}, {"f6(1, 2, 3, f3(1, 2, 3), 5, 6)", 6}, {"f6(1, 2, 3, 4, f3(1, 2, 3), 6)", 7}, {"f2(f0(), f0())", 2}, {"f6(1, 2, 3, 4, 5, f0())", 6}, {"f6(1, 2, 3, 4, 5, f3(1, 2, 3))", 8}, {"f1(f1(f1(1)))", 1}, {"f2(1, f2(1, f2(1, 2)))", 4}, {"1 + f2(1, 2)", 3}, {"f2(1, 2) + 1", 2},
		{deep(7), 7}, {deep(8), 8}, {deep(9), 9}, {"(" + deep(8) + ") + 1", 8}, {"1 && (" + deep(8) + ")", 8}, {"1 && (" + deep(9) + ")", 9}, {"f1(" + deep(8) + ")", 8}, {"f1(" + deep(9) + ")", 9}, {"f2(1, " + deep(8) + ")", 9}, {"f2(1, " + deep(7) + ")", 8}, {"a[" + deep(8) + "]", 8}, {"a[" + deep(9) + "]", 9}, {"-(" + deep(9) + ")", 9}, {"f6(1, 2, 3, 4, 5, " + deep(3) + ")", 8}, {"f6(1, 2, 3, 4, 5, " + deep(4) + ")", 9}, {"f3(1, " + deep(8) + ", 2)", 9}, {"f3(" + deep(8) + ", 1, 2)", 8},
	} {
		needs(t, c.expression, c.n)
	}
	for _, sign := range strings.Fields(pairs) {
		n := 9
		if sign == "&&" || sign == "||" {
			n = 8
		}
		needs(t, "1 "+sign+" ("+deep(8)+")", n)
		needs(t, "1 "+sign+" ("+deep(7)+")", n-1)
		needs(t, "("+deep(8)+") "+sign+" 1", 8)
	}
}

// Each statement that has an expression, with 8 and with 9; a put's value may need only 7.
func TestNeedsOfStatements(t *testing.T) {
	for _, s := range []string{"let x =\n#;", "g =\n#;", "a[\n#] = 1;", "a[\n#] =\n1;", "if\n# {}", "while\n# {}", "return\n#;", "print\n#;", "if 1 { print\n#; }", "if 1 {} else { g =\n#; }", "while 0 { return\n#; }"} {
		good(t, "L4", manyFuncs+body(strings.Replace(s, "#", deep(8), 1)))
		bad(t, "L4", manyFuncs+body(strings.Replace(s, "#", deep(9), 1)), 2, api.ErrFull)
	}
	good(t, "L4", manyFuncs+body("a["+deep(8)+"] = "+deep(7)+";"), manyFuncs+body("a[1] = 1 && ("+deep(7)+");"), manyFuncs+body("a[1] = f2(1, "+deep(6)+");"))
	bad(t, "L4", manyFuncs+body("a[1] =\n"+deep(8)+";"), 2, api.ErrFull)
	bad(t, "L4", manyFuncs+body("a[1] =\nf2(1, "+deep(7)+");"), 2, api.ErrFull)
	// The whole of a call is the call.
	good(t, "L4", manyFuncs+body("f2(1, "+deep(7)+");"), manyFuncs+body("f1("+deep(8)+");"), manyFuncs+body("f6(1, 2, 3, 4, 5, "+deep(3)+");"))
	bad(t, "L4", manyFuncs+body("\nf2(\n1,\n"+deep(8)+");"), 2, api.ErrFull)
	bad(t, "L4", manyFuncs+body("\nf1(\n"+deep(9)+");"), 2, api.ErrFull)
	bad(t, "L4", manyFuncs+body("\nf6(1, 2, 3, 4, 5,\n"+deep(4)+");"), 2, api.ErrFull)
}

// The line is that of the operation's token, of a NAME, of a NUMBER; the fault comes behind all names of the expression, and ahead of those behind it.
func TestLineOfNeeds(t *testing.T) {
	d := deep(8)
	for _, s := range []string{
		"return 1\n+ (\n" + d + ");", "return 0 + 0\n+ (\n" + d + "\n);", "return\n-\n(1 + (\n" + d + "));", "return\na\n[\n1 + (" + d + ")];", "return\nf1\n(\n1 + (" + d + "));", "return (\n(f2(\n1, " + d + ")));", "return (1 + (" + d + "))\n&& 1;", "return 1\n&& 1 + (" + d + ");",
		"return 1\n- 1 * (" + deep(7) + ");", "if 1\n+ (" + d + ") {\nz = 1; }", "while 1\n+ (" + d + ") { z = 1; }", "let x = 1\n+ (" + d + ");", "let g = 1\n+ (" + d + ");", "g = 1\n+ (" + d + ");\nz = 1;", "a[1\n+ (" + d + ")] =\nz;", "a[1] = 1\n+ (" + deep(7) + ");\nz = 1;", "print 1\n+ (" + d + "); print\nz;",
	} {
		bad(t, "L4", manyFuncs+body(s), 2, api.ErrFull)
	}
	for _, s := range []string{
		"return 1 + (" + d + ") +\nz;", "return 1 + (1 + (1 + (1 + (1 + (1 + (1 + (1 +\nz)))))));", "f2(1 + (" + d + "),\nz);", "return f2(1 + (" + d + "),\nz);", "a[1 + (" + d + ") + a[\nz]] = 1;", "a[1] = 1 + (" + d + ") -\nz;", "\nz = 1 + (" + d + ");", "\nz[1 + (" + d + ")] = 1;", "\nz(1 + (" + d + "));", "\nf2(1 + (" + d + "));", "let x = 1 + (" + d + ") +\nx;", "if 1 + (" + d + ") +\nz { }",
	} {
		bad(t, "L4", manyFuncs+body(s), 2, api.ErrLabel)
	}
}
