package lang_test

import (
	"strings"
	"testing"

	"oocore/api"
)

const around = "var g; var a[3]; func f() {} func h(x) { return x; } func k(x, y) { return x - y; }\n"

func TestPrograms(t *testing.T) {
	good(t, "L2",
		"func main() {}", "var g; func main() {}", "func main() {} var g; var a[1];", "func f() {} func main() {} func h(a) {} func k(a, b) {}",
		around+body(""), around+body("let x = 1;"), around+body("g = 1;"), around+body("a[0] = 1;"), around+body("f();"), around+body("h(1);"), around+body("k(1, 2);"),
		around+body("if 1 {}"), around+body("if 1 {} else {}"), around+body("while 0 {}"), around+body("return 1;"), around+body("print 1;"),
		around+body("if g { g = 1; f(); } else { while g { print g; } } if 0 { if 1 {} } let z = a[a[1]]; return z;"),
		around+body("if (1) {} while (g) {} return (1); print (2); h((1)); a[(1)] = (1); g = (((1)));"),
		around+body("g = k(h(1), k(a[h(0)], 2)) + f() * -h(-1) - a[k(2, 1)];"),
		around+body("return 1; return 2; print 3;"),
	)
}

// Each token of programs that have all there is: without it, or with another in its place, there is a fault at that place, or none.
func TestTokensThatCannotStand(t *testing.T) {
	for _, c := range []struct {
		text string // a blank ahead of each token
		may  string // what else may stand where a token is marked by #
	}{
		{" #", "var func"}, {" var #", ""}, {" var a #", "; ["}, {" var a [ #", ""}, {" var a [ 1 #", "]"}, {" var a [ 1 ] #", ";"}, {" var a ; #", "var func"},
		{" func #", ""}, {" func f #", "("}, {" func f ( #", ")"}, {" func f ( a #", ", )"}, {" func f ( a , #", ""}, {" func f ( ) #", "{"},
		{" func f ( ) { #", "} let if while return print"}, {" func f ( ) { } #", "var func"},
		{" func f ( ) { let #", ""}, {" func f ( ) { let a #", "="}, {" func f ( ) { let a = #", "( - ! ~"}, {" func f ( ) { let a = 1 #", "; " + pairs}, {" func f ( ) { let a = 1 ; #", "} let if while return print"},
		{" func f ( ) { a #", "= [ ("}, {" func f ( ) { a = #", "( - ! ~"}, {" func f ( ) { a = b #", "; [ ( " + pairs},
		{" func f ( ) { a [ #", "( - ! ~"}, {" func f ( ) { a [ b #", "] [ ( " + pairs}, {" func f ( ) { a [ 1 ] #", "="}, {" func f ( ) { a [ 1 ] = #", "( - ! ~"}, {" func f ( ) { a [ 1 ] = ( 1 ) #", "; " + pairs},
		{" func f ( ) { a ( #", ") ( - ! ~"}, {" func f ( ) { a ( 1 #", ", ) " + pairs}, {" func f ( ) { a ( 1 , #", "( - ! ~"}, {" func f ( ) { a ( ) #", ";"}, {" func f ( ) { a ( 1 ) #", ";"},
		{" func f ( ) { if #", "( - ! ~"}, {" func f ( ) { if 1 #", "{ " + pairs}, {" func f ( ) { if 1 { #", "} let if while return print"}, {" func f ( ) { if 1 { } #", "} let if while return print else"},
		{" func f ( ) { if 1 { } else #", "{"}, {" func f ( ) { if 1 { } else { #", "} let if while return print"}, {" func f ( ) { if 1 { } else { } #", "} let if while return print"},
		{" func f ( ) { while #", "( - ! ~"}, {" func f ( ) { while 1 #", "{ " + pairs}, {" func f ( ) { while 1 { } #", "} let if while return print"},
		{" func f ( ) { return #", "( - ! ~"}, {" func f ( ) { return 1 #", "; " + pairs}, {" func f ( ) { print #", "( - ! ~"}, {" func f ( ) { print 1 #", "; " + pairs}, {" func f ( ) { print 1 ; #", "} let if while return print"},
		{" func f ( ) { return - #", "( - ! ~"}, {" func f ( ) { return ! ~ #", "( - ! ~"}, {" func f ( ) { return ( #", "( - ! ~"}, {" func f ( ) { return ( 1 #", ") " + pairs}, {" func f ( ) { return ( 1 ) #", "; " + pairs}, {" func f ( ) { return 1 + #", "( - ! ~"},
		{" func f ( ) { return a [ #", "( - ! ~"}, {" func f ( ) { return a [ 1 #", "] " + pairs}, {" func f ( ) { return a [ 1 ] #", "; " + pairs}, {" func f ( ) { return a ( #", ") ( - ! ~"}, {" func f ( ) { return a ( 1 #", ", ) " + pairs}, {" func f ( ) { return a ( 1 , #", "( - ! ~"}, {" func f ( ) { return a ( ) #", "; " + pairs},
	} {
		head := strings.TrimSuffix(c.text, "#")
		for _, next := range append(strings.Fields("var func let if else while return print ( ) [ ] { } , ; = ! ~ $ 1a "+pairs), "12_", "A", "\r", "\xff", "//\n") {
			may := false
			for _, m := range strings.Fields(c.may) {
				may = may || m == next
			}
			line := 2
			if may {
				line = 3 // where the text goes on with what can stand nowhere
			}
			if next == "//\n" {
				line = 4
				next += "\n?" // the line behind the remark
			}
			bad(t, "L2, L3", head+"\n"+next+"\n?", line, api.ErrSyntax)
		}
	}
}

// pairs are the signs of operations of two.
const pairs = "|| && | ^ & == != < <= > >= << >> + - * / %"

// A name or a number stands where it may, and nowhere else.
func TestNamesAndNumbersThatCannotStand(t *testing.T) {
	for _, head := range []string{"", "var a", "var a[1", "var a[1]", "var a;", "func f", "func f(a", "func f()", "func f() {}", "func f() { let a", "func f() { let a = 1", "func f() { a[1]", "func f() { a()", "func f() { if 1", "func f() { if 1 {} else", "func f() { return (1)", "func f() { return a", "func f() { return a()", "func f() { return a[1]"} {
		bad(t, "L2", head+"\nx $", 2, api.ErrSyntax)
		bad(t, "L2", head+"\n1 $", 2, api.ErrSyntax)
	}
	for _, head := range []string{"var", "func", "func f(", "func f(a,", "func f() {", "func f() {}\nfunc g() { let", "func f() { if 1 {", "func f() { if 1 {}", "func f() { if 1 {} else {", "func f() { while 1 {", "func f() { print 1;"} {
		n := 2 + strings.Count(head, "\n")
		bad(t, "L2", head+"\n1 $", n, api.ErrSyntax)
		bad(t, "L2", head+"\nx\n$", n+1, api.ErrSyntax)
	}
	bad(t, "L2", "var a[\n1\n$", 3, api.ErrSyntax)
	bad(t, "L2", "var a[\nx $", 2, api.ErrSyntax)
	for _, head := range []string{"let a =", "a =", "a[", "a[1] =", "a(", "a(1,", "if", "while", "return", "print", "return (", "return -", "return !", "return ~", "return 1 +", "return 1 &&", "return a[", "return a(", "return a(1,"} {
		bad(t, "L2", "func f() {"+head+"\n1\n$", 3, api.ErrSyntax)
		bad(t, "L2", "func f() {"+head+"\nx\n$", 3, api.ErrSyntax)
	}
}

func TestStatementsThatAreNone(t *testing.T) {
	for _, text := range []string{"1;", "f() + 1;", "g;", "a[1];", "{}", "{ let i = 1; }", ";", "if 1 {};", "let x;", "let a[1] = 2;", "let x = 1, y = 2;", "var x;", "func q() {}", "return;", "print;", "print 1, 2;", "if {} ", "while {}", "if 1 {} else if 2 {}", "if 1 return 1;", "while 1 print 1;", "else {}", "g + 1;", "-g;", "(g) = 1;", "g = = 1;", "g += 1;", "g = ;", "g = 1", "f()", "f(;", "f);", "f(1,);", "f(,1);", "f(1 2);", "f()();", "f()[1] = 2;", "a[1][2] = 3;", "a[] = 1;", "g = a[];", "g = a[1, 2];", "g = ();", "g = (1;", "g = 1);", "g = 1 +;", "g = * 1;", "g = 1 - ;", "g = 1(2);", "g = (f)(1);", "g = a[1][2];", "g = f()();", "g = a[1](2);", "if 1 { } }"} {
		bad(t, "L2", around+body(text), 2, api.ErrSyntax)
	}
	for _, text := range []string{"var;", "var a, b;", "var a = 1;", "var a[];", "var a[x];", "var a[1 + 1];", "var a[-1];", "var a[1];;", "var a[1][2];", "var a()", "func;", "func f;", "func f();", "func f() return 1;", "func f {}", "func (a) {}", "func f(a b) {}", "func f(a,) {}", "func f(,a) {}", "func f(1) {}", "func f(a[1]) {}", "func f() {};", "func f() {", "func f() {}}", "let x = 1;", "x = 1;", "return 1;", "{}", "func f(func) {}", "var var;", "1", ";"} {
		bad(t, "L2", body("")+"\n"+text, 2, api.ErrSyntax)
	}
}

// Operations of the same strength go from the left, the stronger ones first: of each two.
func TestStrengths(t *testing.T) {
	for _, c := range []struct{ text, meant string }{
		{"7 || 0 && 0", "7 || (0 && 0)"}, {"0 && 0 || 1", "(0 && 0) || 1"}, {"4 && 2 | 0", "4 && (2 | 0)"}, {"1 | 0 && 0", "(1 | 0) && 0"}, {"5 | 1 ^ 4", "5 | (1 ^ 4)"}, {"1 ^ 4 | 5", "(1 ^ 4) | 5"}, {"7 ^ 5 & 2", "7 ^ (5 & 2)"}, {"2 & 5 ^ 7", "(2 & 5) ^ 7"},
		{"6 & 3 == 3", "6 & (3 == 3)"}, {"3 != 3 & 2", "(3 != 3) & 2"}, {"0 == 2 < 1", "0 == (2 < 1)"}, {"3 > 2 == 1", "(3 > 2) == 1"}, {"5 != 5 >= 5", "5 != (5 >= 5)"}, {"1 < 2 << 3", "1 < (2 << 3)"}, {"8 >> 1 <= 3", "(8 >> 1) <= 3"}, {"1 << 2 + 3", "1 << (2 + 3)"}, {"9 - 1 >> 2", "(9 - 1) >> 2"}, {"2 + 3 * 4", "2 + (3 * 4)"}, {"20 - 7 % 4", "20 - (7 % 4)"}, {"3 * 4 - 5", "(3 * 4) - 5"},
		{"1 - 2 - 3", "(1 - 2) - 3"}, {"64 / 8 / 2", "(64 / 8) / 2"}, {"64 / 8 * 2", "(64 / 8) * 2"}, {"7 * 9 % 5", "(7 * 9) % 5"}, {"100 % 7 / 2", "(100 % 7) / 2"}, {"1 << 2 << 3", "(1 << 2) << 3"}, {"256 >> 2 << 1", "(256 >> 2) << 1"}, {"3 > 2 > 1", "(3 > 2) > 1"}, {"1 < 1 <= 0", "(1 < 1) <= 0"}, {"5 == 5 != 2", "(5 == 5) != 2"}, {"2 == 2 == 2", "(2 == 2) == 2"}, {"9 - 4 + 3", "(9 - 4) + 3"},
		{"-2 - 1", "(-2) - 1"}, {"-7 / 2", "(-7) / 2"}, {"-3 * -2", "(-3) * (-2)"}, {"!2 + 1", "(!2) + 1"}, {"!0 == 2", "(!0) == 2"}, {"~1 & 3", "(~1) & 3"}, {"!1 || 1", "(!1) || 1"}, {"-1 >> 31", "(-1) >> 31"}, {"-~!0", "-(~(!0))"}, {"!-~0", "!(-(~0))"}, {"1 - -1", "1 - (-1)"}, {"~2 * ~3", "(~2) * (~3)"}, {"-h(3) + 1", "(-(h(3))) + 1"}, {"!b[1] + 1", "(!(b[1])) + 1"},
		{"1 + 2 * 3 - 4 / 2 << 1 & 62 | 1 ^ 3 == 3", "(((((1 + (2 * 3)) - (4 / 2)) << 1) & 62) | (1 ^ (3 == 3)))"},
	} {
		value := eval(t, "L2", "var b[2]; func h(x) { return x; }"+whole(c.meant), 100, 100).Value
		comes(t, "L2", "var b[2]; func h(x) { return x; }"+whole(c.text), int(value))
	}
}

// Of any two operations the stronger one is done first, of two of the same strength the left one.
func TestAnyTwoStrengths(t *testing.T) {
	rows := []string{"||", "&&", "|", "^", "&", "== !=", "< <= > >=", "<< >>", "+ -", "* / %"}
	for strength, row := range rows {
		for _, sign := range strings.Fields(row) {
			for other, row := range rows {
				for _, next := range strings.Fields(row) {
					twoStrengths(t, sign, next, strength >= other)
				}
			}
		}
	}
}

// twoStrengths: with values by which the two ways to read it are told apart, if any are.
func twoStrengths(t *testing.T, sign, next string, fromLeft bool) {
	values := []string{"0", "1", "2", "3", "6", "-5"}
	for _, a := range values {
		for _, b := range values {
			for _, c := range values {
				text := a + sign + b + next + c
				meant := a + sign + "(" + b + next + c + ")"
				if fromLeft {
					meant = "(" + a + sign + b + ")" + next + c
				}
				if x, y := eval(t, "L2", whole(text), 10, 100), eval(t, "L2", whole(meant), 10, 100); x.Value != y.Value {
					t.Errorf("L2: %s is %d, %s is %d", text, x.Value, meant, y.Value)
				}
			}
		}
	}
}
