package lang_test

import (
	"strings"
	"testing"

	"oocore/api"
)

func TestLengthOfTexts(t *testing.T) {
	m := body("return 5;")
	comes(t, "L3", m+strings.Repeat(" ", 8000-len(m)), 5)
	good(t, "L3", strings.Repeat("\n", 8000-len(m))+m)
	bad(t, "L3", m+strings.Repeat(" ", 8001-len(m)), 0, api.ErrImage)
	bad(t, "L3", strings.Repeat("\n", 8001), 0, api.ErrImage)
	bad(t, "L3", strings.Repeat("$", 8001), 0, api.ErrImage)
	bad(t, "L3", strings.Repeat("$", 8000), 1, api.ErrSyntax)
	bad(t, "L3", strings.Repeat("\n", 8000), 0, api.ErrLabel)
	bad(t, "L3", strings.Repeat("\n", 7999)+"x", 8000, api.ErrSyntax)
	bad(t, "L3", strings.Repeat("x", 1000000), 0, api.ErrImage)
	// Bytes are counted, not letters.
	tail := "//" + strings.Repeat("é", 3900)
	good(t, "L3", m+tail+strings.Repeat(" ", 8000-len(m)-len(tail)))
	bad(t, "L3", m+tail+strings.Repeat("é", 100), 0, api.ErrImage)
}

func TestLengthOfNames(t *testing.T) {
	const n = "abcdefghij_23456"
	good(t, "L3", "var "+n+";"+body(n+" = "+n+" + 1;"), "func "+n+"() {}"+body(n+"();"), "func f("+n+") { return "+n+"; }"+body(""), body("let "+n+" = 1; "+n+" = 2;"), "var "+n+"[2];"+body(n+"[1] = "+n+"[0];"))
	long := n + "7"
	for _, text := range []string{
		"var\n" + long + "\n$", "var\n" + long + ";", "func\n" + long + "\n$", "func f(\n" + long + "\n$", "func f(a,\n" + long + "\n$", "func f() {\n" + long + "\n$", "func f() { let\n" + long + "\n$", "func f() { return\n" + long + "\n$", "func f() { a[\n" + long + "\n$", "func f() { a(\n" + long + "\n$", "func f() { return 1 +\n" + long + "\n$", "func f() { return -\n" + long + "\n$", "func f() { if\n" + long + "\n$",
		"var\n" + strings.Repeat("_", 7000), "func f() {}\n" + "var " + strings.Repeat("z9", 9),
	} {
		bad(t, "L3", text, 2, api.ErrRange)
	}
	// Where no name can stand, that is told first.
	for _, text := range []string{"\n" + long, "var a\n" + long, "var a[\n" + long, "func f() { return 1\n" + long, "func f()\n" + long, "func f(a\n" + long, "func f() { if 1\n" + long, "func f() { a()\n" + long, "func f() { a[1]\n" + long} {
		bad(t, "L3", text, 2, api.ErrSyntax)
	}
	good(t, "L3", "func main() {} // "+long)
}

func TestSizeOfNumbers(t *testing.T) {
	for _, head := range []string{"return", "print", "let a =", "a =", "a[", "a[1] =", "a(", "a(1,", "if", "while", "return (", "return -", "return 1 +", "return a["} {
		for _, n := range []string{"4294967296", "4294967300", "9999999999", "18446744073709551616", "18446744073709551617", "00004294967296", strings.Repeat("9", 5000)} {
			bad(t, "L3", "func f() {"+head+"\n"+n+"\n$", 2, api.ErrRange)
		}
		bad(t, "L3", "func f() {"+head+"\n4294967295\n$", 3, api.ErrSyntax)
	}
	// Where no number can stand, that is told first.
	for _, text := range []string{"\n4294967296", "var\n4294967296", "var a\n4294967296", "func f() {\n4294967296", "func f() { return 1\n4294967296", "func f(\n4294967296", "func f() { let\n4294967296", "func f(a, b, c, d, e, g,\n4294967296"} {
		bad(t, "L3", text, 2, api.ErrSyntax)
	}
}

func TestSizeOfArrays(t *testing.T) {
	for _, n := range []string{"1", "2", "255", "256", "0256", "001"} {
		good(t, "L3", "var a["+n+"];"+body(""))
	}
	for _, n := range []string{"0", "00", "257", "0257", "512", "1000", "4294967295", "4294967296", "4294967297", "18446744073709551617", strings.Repeat("1", 3000)} {
		bad(t, "L3", "var a[\n"+n+"\n$", 2, api.ErrRange)
	}
	fails(t, "L3", "var a[1]; func main() { a[0] = 3; a[1] = 4; }", 10, 1, "", 3)
}

func TestParameters(t *testing.T) {
	names := []string{"a", "b", "c", "d", "e", "g", "h", "i"}
	for n := range 7 {
		good(t, "L3", "func f("+strings.Join(names[:n], ", ")+") {}"+body(""))
	}
	bad(t, "L3", "func f(a, b, c, d, e, g,\nh\n$", 2, api.ErrRange)
	bad(t, "L3", "func f(a, b, c, d, e, g,\nh, i) {}", 2, api.ErrRange)
	bad(t, "L3", "func f(a, a, a, a, a, a,\na", 2, api.ErrRange)
	bad(t, "L3", "func f(a, b, c, d, e, g,\nabcdefghijklmnopq", 2, api.ErrRange)
	// What is no parameter is no seventh one.
	for _, next := range []string{")", "1", ",", "while", "$", "12ab", "{", ""} {
		bad(t, "L3", "func f(a, b, c, d, e, g,\n"+next, 2, api.ErrSyntax)
	}
	bad(t, "L3", "func f(a, b, c, d, e, g\nh", 2, api.ErrSyntax)
	// A call may have as many as it likes: that is a matter of names.
	bad(t, "L4", "func f() {}\n"+body("f(1,2,3,4,5,6,7,8);"), 2, api.ErrLabel)
}
