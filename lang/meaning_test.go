package lang_test

import (
	"fmt"
	"strconv"
	"strings"
	"testing"
)

// edges are words at which operations change their ways.
var edges = []uint32{0, 1, 2, 3, 5, 7, 31, 32, 33, 63, 64, 255, 256, 1000, 65535, 65536, 0x7ffffffe, 0x7fffffff, 0x80000000, 0x80000001, 0xaaaaaaaa, 0xfffffff6, 0xfffffffe, 0xffffffff}

// meant is what an operation of two computes, in 64 bits with signs.
func meant(sign string, x, y uint32) uint32 {
	a, b := int64(int32(x)), int64(int32(y))
	told := map[string]bool{"==": a == b, "!=": a != b, "<": a < b, "<=": a <= b, ">": a > b, ">=": a >= b, "&&": a != 0 && b != 0, "||": a != 0 || b != 0}
	if is, ok := told[sign]; ok {
		if is {
			return 1
		}
		return 0
	}
	switch sign {
	case "+":
		return uint32(a + b)
	case "-":
		return uint32(a - b)
	case "*":
		return uint32(a * b)
	case "&":
		return uint32(a & b)
	case "|":
		return uint32(a | b)
	case "^":
		return uint32(a ^ b)
	case "<<":
		return uint32(a << (b & 31))
	case ">>":
		return uint32(a >> (b & 31))
	case "/":
		if b == 0 {
			return 0xffffffff
		}
		return uint32(a / b)
	}
	if b == 0 {
		return x
	}
	return uint32(a % b)
}

// Every operation of two at every two of the edges: of numbers, of globals and of locals.
func TestOperationsOfTwo(t *testing.T) {
	for _, sign := range strings.Fields(pairs) {
		for _, a := range edges {
			for _, b := range edges {
				want := int(meant(sign, a, b))
				comes(t, "L5", whole(fmt.Sprint(a, sign, b)), want)
				comes(t, "L5", fmt.Sprintf("var g; func f(x, y) { g = x; return g %s y; } func main() { return f(%d, %d); }", sign, a, b), want)
			}
		}
	}
}

func TestOperationsOfOne(t *testing.T) {
	for _, a := range edges {
		n := strconv.FormatUint(uint64(a), 10)
		comes(t, "L5", whole("-"+n), int(-a))
		comes(t, "L5", whole("~"+n), int(^a))
		not := 0
		if a == 0 {
			not = 1
		}
		comes(t, "L5", whole("!"+n), not)
		comes(t, "L5", whole("- -"+n), int(a))
		comes(t, "L5", whole("!!"+n), 1-not)
	}
}

// What is not 0 is true; && and || come to 1 or 0.
func TestTruth(t *testing.T) {
	for _, a := range edges {
		is := 0
		if a != 0 {
			is = 1
		}
		n := strconv.FormatUint(uint64(a), 10)
		comes(t, "L5", body("if "+n+" { return 1; } return 0;"), is)
		comes(t, "L5", body("if "+n+" { return 1; } else { return 0; } return 9;"), is)
		comes(t, "L5", body("let x = "+n+"; while x { return 1; } return 0;"), is)
		comes(t, "L5", whole("1 && "+n), is)
		comes(t, "L5", whole(n+" && 2"), is)
		comes(t, "L5", whole("0 || "+n), is)
		comes(t, "L5", whole(n+" || 0"), is)
	}
}

const noted = "var g; func f(x) { g = g * 10 + x; return x; } func z(x) { g = g * 10 + x; return 0; } func k(x, y, w) { return x * 100 + y * 10 + w; } "

// in: a program of noted ends with this value, and this is in g: which calls there were, from the first on.
func in(t *testing.T, statements string, value, g int) {
	t.Helper()
	o := eval(t, "L5", noted+body(statements), 512, 20000)
	if !o.Ended || o.Fault != 0 || o.Value != uint32(value) || o.Globals[0] != uint32(g) {
		t.Errorf("L5: %q comes to %+v, want %d, and g %d", statements, o, value, g)
	}
}

func TestSecondsThatAreNotEvaluated(t *testing.T) {
	in(t, "return z(1) && f(2);", 0, 1)
	in(t, "return f(1) && f(2);", 1, 12)
	in(t, "return f(1) && z(2);", 0, 12)
	in(t, "return f(1) || f(2);", 1, 1)
	in(t, "return z(1) || f(2);", 1, 12)
	in(t, "return z(1) || z(2);", 0, 12)
	in(t, "return z(1) && f(2) || f(3);", 1, 13)
	in(t, "return f(1) || f(2) && f(3);", 1, 1)
	in(t, "return z(1) || f(2) && f(3);", 1, 123)
	in(t, "return z(1) && f(2) && f(3);", 0, 1)
	in(t, "return (f(1) || f(2)) && (z(3) || f(4));", 1, 134)
	in(t, "return !(z(1) && f(2)) + (f(3) || f(4)) * 10;", 11, 13)
	// Nor does what they would come to matter.
	in(t, "return 0 && 1 / 0; ", 0, 0)
	comes(t, "L5", "var a[1]; "+whole("0 && a[9]"), 0)
	comes(t, "L5", "var a[1]; "+whole("7 || a[9]"), 1)
	fails(t, "L5", "var a[1]; "+whole("1 && a[9]"), 10, 1, "", 0)
	fails(t, "L5", "var a[1]; "+whole("0 || a[9]"), 10, 1, "", 0)
}

// All is evaluated from the left.
func TestFromTheLeft(t *testing.T) {
	for _, sign := range strings.Fields("| ^ & == != < <= > >= << >> + - * / %") {
		in(t, "let x = f(1) "+sign+" f(2) "+sign+" f(3); return 0;", 0, 123)
		in(t, "let x = f(1) "+sign+" (f(2) "+sign+" f(3)); return 0;", 0, 123)
	}
	in(t, "return f(1) + f(2) * f(3);", 7, 123)
	in(t, "return k(f(1), f(2), f(3));", 123, 123)
	in(t, "return k(f(1), k(f(2), f(3), f(4)), f(5)) - 2340;", 105, 12345)
	// A word is taken when its turn comes.
	in(t, "return g + f(2) + g;", 4, 2)
	in(t, "return k(g, f(7), g);", 77, 7)
	in(t, "g = g + f(3); return g;", 3, 3)
	in(t, "let x = 1; x = x + f(x + 1) + x; return x;", 4, 2)
}

func TestPuts(t *testing.T) {
	head := noted + "var a[3];"
	for _, c := range []struct {
		statements string
		globals    []uint32
	}{
		{"a[f(1)] = f(2);", []uint32{12, 0, 2, 0}}, {"a[f(2)] = f(1) + f(0);", []uint32{210, 0, 0, 1}}, {"a[0] = 5; a[1] = a[0] + 1; a[2] = a[1] + a[0];", []uint32{0, 5, 6, 11}},
		{"a[g] = f(2);", []uint32{2, 2, 0, 0}}, {"a[a[a[0] + 1] + 2] = 4294967295;", []uint32{0, 0, 0, 1<<32 - 1}}, {"a[1] = f(1) + a[1];", []uint32{1, 0, 1, 0}},
	} {
		if o := eval(t, "L5", head+body(c.statements), 100, 1000); fmt.Sprint(o.Globals) != fmt.Sprint(c.globals) || o.Fault != 0 {
			t.Errorf("L5: %q comes to %+v, want %v", c.statements, o, c.globals)
		}
	}
	// The place ahead of the value, the index looked at behind both.
	fails(t, "L5", head+body("a[f(3)] = f(2);"), 100, 1, "", 32, 0, 0, 0)
	fails(t, "L5", head+body("a[3] = a[4 + f(1)];"), 100, 1, "", 1, 0, 0, 0)
	fails(t, "L5", head+"func r() { return r(); }"+body("a[9] = r();"), 100, 2, "", 0, 0, 0, 0)
	fails(t, "L5", head+body("a[a[3]] = f(2);"), 100, 1, "", 0, 0, 0, 0)
	fails(t, "L5", head+"func p() { print 80; return 1; }"+body("a[7] = p();"), 100, 1, "P", 0, 0, 0, 0)
}

func TestIndexes(t *testing.T) {
	for _, size := range []int{1, 2, 3, 255, 256} {
		head := fmt.Sprintf("var l; var a[%d]; var r;", size)
		comes(t, "L5", head+body(fmt.Sprintf("a[%d] = 7; return a[%d];", size-1, size-1)), 7)
		comes(t, "L5", head+body("a[0] = 8; return a[0] + l + r;"), 8)
		for _, i := range []string{strconv.Itoa(size), strconv.Itoa(size + 1), "-1", "2147483648", "2147483647", "4294967295", "-2147483648", "512", "1073741824"} {
			for _, s := range []string{"a[" + i + "] = 1;", "return a[" + i + "];", "print a[" + i + "];", "let x = 1 + a[" + i + "] + 1;"} {
				fails(t, "L5", head+body("l = 4; r = 5; print 65; "+s+" l = 9; print 66;"), 512, 1, "A", append(append([]uint32{4}, make([]uint32, size)...), 5)...)
			}
		}
	}
}

func TestGlobals(t *testing.T) {
	head := "var p; var a[2]; func f(x) { q = q + x; return p; } var q; var b[1];"
	o := eval(t, "L5, L6", head+body("let s = p + q + a[0] + a[1] + b[0]; return s;"), 100, 100)
	if o.Value != 0 || fmt.Sprint(o.Globals) != "[0 0 0 0 0]" {
		t.Errorf("L5: globals are not 0 at first: %+v", o)
	}
	o = eval(t, "L5, L6", head+body("p = 1; a[0] = 2; a[1] = 3; f(4); b[0] = 5; return f(1);")+" var z;", 100, 100)
	if o.Value != 1 || fmt.Sprint(o.Globals) != "[1 2 3 5 5 0]" {
		t.Errorf("L6: globals are not told in the order of the text: %+v", o)
	}
	if o = eval(t, "L6", body("return 1;"), 100, 100); len(o.Globals) != 0 {
		t.Errorf("L6: there are no globals, but %v", o.Globals)
	}
}

func TestCallsAndReturns(t *testing.T) {
	comes(t, "L5", "func f() {}"+body("return f() + 3;"), 3)
	comes(t, "L5", body(""), 0)
	comes(t, "L5", body("let x = 5; x = 6;"), 0)
	comes(t, "L5", "func f(x) { if x { return 7; } }"+body("return f(1) * 10 + f(0);"), 70)
	comes(t, "L5", "func f(x) { while 1 { if x > 3 { return x; } else { x = x + 1; } } return 99; }"+body("return f(0);"), 4)
	comes(t, "L5", "func f(x) { while x { while 1 { return 5; } } return 6; }"+body("return f(1) * 10 + f(0);"), 56)
	comes(t, "L5", "func f(x) { x = x + 1; return x; }"+body("let x = 5; let y = f(x); return x * 10 + y;"), 56)
	comes(t, "L5", "func f(a, b, c, d, e, g) { return a + b * 2 + c * 3 + d * 4 + e * 5 + g * 6; }"+body("return f(1, 10, 100, 1000, 10000, 100000);"), 654321)
	comes(t, "L5", "func f(n) { let k = n; if n { f(n - 1); } return k; }"+body("return f(9);"), 9)
	comes(t, "L5", "func f(n) { if n < 2 { return n; } return f(n - 1) + f(n - 2); }"+body("return f(10);"), 55)
	comes(t, "L5", "func even(n) { if n { return odd(n - 1); } return 1; } func odd(n) { if n { return even(n - 1); } return 0; }"+body("return even(10) * 10 + odd(7);"), 11)
	comes(t, "L5", "var n; func main() { n = n + 1; if n < 4 { return main() * 10 + n; } return 1; }", 1444)
	// Return ends all, whatever stands behind it.
	prints(t, "L5", body("print 65; if 1 { while 1 { print 66; return 1; print 67; } print 68; } print 69;"), "AB")
}

func TestLoops(t *testing.T) {
	comes(t, "L5", body("let i = 10; let s = 0; while i { s = s + i; i = i - 1; } return s;"), 55)
	comes(t, "L5", body("let i = 0; while i < 5 { let j = 0; while j < i { j = j + 1; } i = i + j + 1; } return i;"), 7)
	comes(t, "L5", body("while 0 { return 1; } return 2;"), 2)
	comes(t, "L5", body("if 0 { return 1; } else { if 0 { return 2; } else { return 3; } } return 4;"), 3)
	// A let is declared anew in each round.
	comes(t, "L5", body("let i = 0; let s = 0; while i < 3 { let x = i; x = x + 10; s = s * 100 + x; i = i + 1; } return s;"), 101112)
}

func TestPrinted(t *testing.T) {
	for c := range 300 {
		prints(t, "L5", body(fmt.Sprintf("print %d;", c)), string([]byte{byte(c)}))
	}
	prints(t, "L5", body("print -1; print 65601; print 4294967295; print 0; print 256;"), "\xffA\xff\x00\x00")
	prints(t, "L5", body(""), "")
	prints(t, "L5", body("let i = 0; while i < 1000 { print i; i = i + 1; }"), func() string {
		var b []byte
		for i := range 1000 {
			b = append(b, byte(i))
		}
		return string(b)
	}())
}

// What a print's own expression prints comes first, in whatever part of it that is.
func TestPrintOfWhatPrints(t *testing.T) {
	const head = "var a[3]; func f() { print 65; return 66; } func g() { print f(); print f(); return 67; } func k(x, y) { print x; print y; return x + y; } func down(n) { if n { print down(n - 1); } return 48 + n; }"
	for _, c := range [][2]string{
		{"print f();", "AB"}, {"print g(); print f() + 1;", "ABABCAC"}, {"print -f() + f() * 2;", "AAB"}, {"print k(f(), g()) - 66;", "AABABBCC"}, {"print f() && g();", "AABAB\x01"}, {"print f() || g();", "A\x01"},
		{"print a[f() - 66] + k(49, 50) - 50;", "A121"}, {"a[f() - 65] = g(); print a[1];", "AABABC"}, {"let x = f(); print x; x = g(); print x;", "ABABABC"}, {"f(); g(); print k(49, 1) + 1;", "AABAB1\x013"}, {"if f() { print g(); }", "AABABC"}, {"print down(4);", "01234"}, {"print k(down(2), down(1)) - 48;", "01021" + "3"},
	} {
		prints(t, "L5", head+body(c[0]), c[1])
	}
	fails(t, "L5", head+body("print f() + a[g()];"), 512, 1, "AABAB", 0, 0, 0)
	fails(t, "L5", head+body("print down(60);"), 512, 2, "", 0, 0, 0)
	fails(t, "L5", "func e(n) { print n; print e(n + 1); print 33; }"+body("print e(48);"), 54, 2, "0123")
}

// A call takes 10 words, and one for each local, of whatever block; they are given back in the end.
func TestStack(t *testing.T) {
	for locals := range 25 {
		text := body(lets(locals))
		if o := eval(t, "L5", text, 10+locals, 1000); o.Fault != 0 || !o.Ended {
			t.Errorf("L5: %d locals: %+v", locals, o)
		}
		fails(t, "L5", text, 9+locals, 2, "")
	}
	fails(t, "L5", body("if 0 { let x = 1; } else { let y = 1; }"), 11, 2, "")
	if o := eval(t, "L5", body("if 0 { let x = 1; } else { let y = 1; }"), 12, 100); o.Fault != 0 {
		t.Errorf("L5: two locals of blocks: %+v", o)
	}
	// One call ahead of another, and one within another.
	two := "func f(x) { let y = x; return y; }"
	for _, c := range []struct {
		text  string
		stack int
	}{{two + body("f(1); f(2); return f(3);"), 22}, {two + body("return f(f(f(1)));"), 22}, {two + body("return f(1) + f(2) + f(3);"), 22}, {two + "func h(x) { return f(x); }" + body("return h(1) + f(1);"), 33}, {two + body("let i = 0; while i < 50 { i = i + f(1); }"), 23}} {
		if o := eval(t, "L5", c.text, c.stack, 20000); o.Fault != 0 || !o.Ended {
			t.Errorf("L5: %q with %d words: %+v", c.text, c.stack, o)
		}
		fails(t, "L5", c.text, c.stack-1, 2, "")
	}
	// The arguments are evaluated ahead of the fault.
	fails(t, "L5", noted+body("print 65; return k(f(1), f(2), f(3));"), 22, 2, "A", 123)
	fails(t, "L5", noted+body("print 65; return k(f(1), f(2), f(3));"), 20, 2, "A", 0)
	fails(t, "L5", "var a[1];"+"func f(x) {}"+body("f(a[1]);"), 10, 1, "", 0)
	for stack := range 11 {
		text := "var g; func main() { g = 1; }"
		if o := eval(t, "L5", text, stack, 10); (o.Fault == 2) != (stack < 10) || o.Globals[0] != uint32(stack/10) {
			t.Errorf("L5: %d words: %+v", stack, o)
		}
	}
	for _, stack := range []int{0, 9, 10, 19, 20, 199, 200, 511, 512} {
		o := eval(t, "L5", "var n; func main() { n = n + 1; return main(); }", stack, 20000)
		if !o.Ended || o.Fault != 2 || o.Globals[0] != uint32(stack/10) {
			t.Errorf("L5: %d words: %+v", stack, o)
		}
	}
}
