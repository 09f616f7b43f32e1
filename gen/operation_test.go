package gen_test

import (
	"fmt"
	"strings"
	"testing"
)

// shapes are ways in which two values come to an operation.
var shapes = []string{
	"func main() { return %[1]d %[2]s %[3]d; }",
	"func main() { let a = %[1]d; let b = %[3]d; return a %[2]s b; }",
	"var a; var b; func main() { a = %[1]d; b = %[3]d; return a %[2]s b; }",
	"var a[2]; func main() { a[0] = %[1]d; a[1] = %[3]d; return a[0] %[2]s a[1]; }",
	"func f(x) { return x; } func main() { return f(%[1]d) %[2]s f(%[3]d); }",
	"func f(x) { return x; } func main() { return f(%[1]d) %[2]s %[3]d; }",
	"func f(x) { return x; } func main() { return %[1]d %[2]s f(%[3]d); }",
	"func f(a, b) { return a %[2]s b; } func main() { return f(%[1]d, %[3]d); }",
	"func main() { let a = 9; return a + (a + (%[1]d %[2]s %[3]d)); }",
}

func TestOperationsOfTwo(t *testing.T) {
	for n, sign := range strings.Fields(pairs) {
		for _, a := range edges {
			for m, b := range edges {
				agree(t, fmt.Sprintf(shapes[(n+m)%len(shapes)], a, sign, b), 40)
			}
		}
		for _, shape := range shapes {
			for _, two := range [][2]uint32{{7, 3}, {1<<32 - 7, 3}, {7, 1<<32 - 3}, {0, 5}, {5, 0}, {5, 5}, {1 << 31, 1<<32 - 1}} {
				agree(t, fmt.Sprintf(shape, two[0], sign, two[1]), 40)
			}
		}
	}
}

func TestOperationsOfOne(t *testing.T) {
	for _, sign := range []string{"-", "!", "~"} {
		for _, a := range edges {
			agree(t, whole(fmt.Sprintf("%s%d", sign, a)), 10)
			agree(t, "func f(x) { return x; }"+whole(fmt.Sprintf("%sf(%d)", sign, a)), 40)
			agree(t, whole(fmt.Sprintf("3 + %s(%d + 1)", sign, a)), 10)
		}
		for _, other := range []string{"-", "!", "~"} {
			agree(t, whole(sign+other+"5"), 10)
		}
		agree(t, whole(strings.Repeat(sign, 22)+"6"), 10)
		agree(t, whole(strings.Repeat(sign+"-!~", 5)+"6"), 10)
	}
}

// Every number is itself, in each temporary.
func TestNumbers(t *testing.T) {
	for _, e := range edges {
		comes(t, whole(fmt.Sprint(e)), 10, int(e))
		comes(t, whole(fmt.Sprintf("1 - (1 - (1 - (1 - (1 - (1 - (1 - %d))))))", e)), 10, 1-int(e))
		comes(t, "var g;"+body(fmt.Sprintf("g = %d; return g;", e)), 10, int(e))
		comes(t, "func f(a, b, c, d, e, g) { return g; }"+whole(fmt.Sprintf("f(1, 2, 3, 4, 5, %d)", e)), 26, int(e))
	}
	comes(t, whole("00000000000000000000000000000000000002048"), 10, 2048)
	for n := range 32 {
		for _, d := range []int{-1, 0, 1} {
			e := uint32(1)<<n + uint32(d)
			comes(t, whole(fmt.Sprint(e)), 10, int(e))
		}
	}
}

// Each operation is as strong as the language has it, and goes from the left.
func TestOperationsAmongEachOther(t *testing.T) {
	for _, a := range strings.Fields(pairs) {
		for _, b := range strings.Fields(pairs) {
			agree(t, whole(fmt.Sprintf("9 %s 4 %s 3", a, b)), 10)
			agree(t, whole(fmt.Sprintf("9 %s (4 %s 3)", a, b)), 10)
			agree(t, whole(fmt.Sprintf("(9 %s 4) %s 3", a, b)), 10)
			agree(t, "func f(x) { print x; return x - 1; }"+whole(fmt.Sprintf("f(9) %s (f(4) %s f(3))", a, b)), 40)
			agree(t, "func f(x) { print x; return x - 1; }"+whole(fmt.Sprintf("f(1) %s f(3) %s f(1)", a, b)), 40)
		}
	}
}

// && and || leave their second alone where the first says all, whatever is in it.
func TestBoth(t *testing.T) {
	const noted = "var g; var a[2]; func f(x) { g = g * 10 + x + 1; print 48 + x; return x; } func e() { return e(); }"
	for _, c := range []struct {
		text string
		want int
		out  string
	}{
		{"f(0) && f(1)", 0, "0"}, {"f(1) && f(0)", 0, "10"}, {"f(2) && f(3)", 1, "23"}, {"f(0) || f(0)", 0, "00"}, {"f(2) || f(3)", 1, "2"}, {"f(0) || f(4)", 1, "04"},
		{"f(0) && f(1) || f(2) && f(3)", 1, "023"}, {"(f(0) || f(1)) && (f(2) || f(3))", 1, "012"}, {"f(1) && f(2) && f(0) && f(4)", 0, "120"}, {"f(0) || f(0) || f(5) || f(4)", 1, "005"},
		{"0 && a[2]", 0, ""}, {"1 || a[2]", 1, ""}, {"0 && e()", 0, ""}, {"1 || e()", 1, ""}, {"!(0 && a[9]) && !(1 && 0 && e())", 1, ""},
		{"5 + (f(0) && f(1))", 5, "0"}, {"f(5) + (f(1) && f(2)) + f(7)", 13, "5127"}, {"f(5) + (f(0) || f(2)) * f(7)", 12, "5027"}, {"f(f(0) && f(1)) + f(f(1) || f(0))", 1, "0011"},
		{"9 - (2 - (0 && f(1)))", 7, ""}, {"9 - (2 - (1 && f(1)))", 8, "1"}, {"9 - (2 - (1 || f(1)))", 8, ""}, {"9 - (2 - (0 || f(1)))", 8, "1"},
	} {
		o, _ := agree(t, noted+whole(c.text), 512)
		if o.Fault != 0 || o.Value != uint32(c.want) || o.Out != c.out {
			t.Errorf("G2: %s comes to %+v, want %d, %q", c.text, o, c.want, c.out)
		}
	}
	fails(t, noted+whole("1 && a[2]"), 40, 1, "", 0, 0, 0)
	fails(t, noted+whole("0 || a[2]"), 40, 1, "", 0, 0, 0)
	fails(t, noted+whole("f(0) || e()"), 40, 2, "0", 1, 0, 0)
	fails(t, noted+whole("f(1) && e()"), 40, 2, "1", 2, 0, 0)
	agree(t, noted+body("if f(0) && f(1) { print 89; } else { print 78; } let i = 0; while i < 3 && (f(i) || f(2)) { i = i + 1; } return i;"), 40)
}
