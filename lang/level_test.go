package lang_test

import (
	"fmt"
	"strings"
	"testing"

	"oocore/api"
)

// nest is a way to go one level deeper: what stands ahead of the inner level and behind it, so many levels inside a func's block.
type nest struct {
	name       string
	ahead      string
	inner, end string
	behind     string
	tail       string
	levels     int // at which the inner one stands, with none of these around it
}

func nests() []nest {
	const head = "var a[9]; func f(x) { return x; } func k(x, y) { return y; } func main() { "
	return []nest{
		{"brackets", head + "return ", "(", ")", "1", "; }", 2},
		{"indexes", head + "return ", "a[", "]", "1", "; }", 2},
		{"calls", head + "return ", "f(", ")", "1", "; }", 2},
		{"second arguments", head + "return ", "k(1, ", ")", "1", "; }", 2},
		{"minus", head + "return ", "-", "", "1", "; }", 2},
		{"not", head + "return ", "!", "", "1", "; }", 2},
		{"inverse", head + "return ", "~", "", "1", "; }", 2},
		{"brackets of let", head + "let x = ", "(", ")", "1", "; }", 2},
		{"brackets of if", head + "if ", "(", ")", "1", " {} }", 2},
		{"brackets of while", head + "while ", "(", ")", "0", " {} }", 2},
		{"brackets of print", head + "print ", "(", ")", "1", "; }", 2},
		{"brackets of a place", head + "a[", "(", ")", "1", "] = 1; }", 2},
		{"brackets of a value", head + "a[1] = ", "(", ")", "1", "; }", 2},
		{"brackets of an argument", head + "f(", "(", ")", "1", "); }", 2},
		{"brackets behind an operation", head + "return 0 && ", "(1 && ", ")", "1", "; }", 2},
		{"if", head, "if 1 { ", "} ", "let x = 1;", "}", 2},
		{"else", head, "if 0 { } else { ", "} ", "print 1;", "}", 2},
		{"while", head, "while 0 { ", "} ", "return 1;", "}", 2},
	}
}

func (n nest) text(times int, inside string) string {
	return n.ahead + strings.Repeat(n.inner, times) + inside + strings.Repeat(n.end, times) + n.tail
}

// The 24th level is the last of each kind, alone and with any number of others around it.
func TestLevels(t *testing.T) {
	for _, n := range nests() {
		last := 24 - n.levels
		for times := range last + 1 {
			if line, err := check(n.text(times, n.behind)); err == api.ErrRange || err == api.ErrSyntax {
				t.Errorf("L3: %d times %s: %d, %v", times, n.name, line, err)
			}
		}
		for times := last + 1; times < last+4; times++ {
			bad(t, "L3: "+n.name, n.text(times, n.behind), 1, api.ErrRange)
		}
	}
}

// The level begins at a token, whatever that is: the token's line is told.
func TestLineOfLevels(t *testing.T) {
	for _, open := range []string{"(", "a[", "f(", "k(1,"} {
		for _, next := range []string{"1", "x", ";", "$", "12ab", "4294967296", "abcdefghijklmnopq", "while", "}", "]", ",", "=", "", "\xff", "-", "(", "+", "{"} {
			head := "func main() { return " + strings.Repeat("(", 22)
			bad(t, "L3", head+open+"\n"+next, 2-strings.Count(open, ","), api.ErrRange)
			bad(t, "L3", head+"\n("+next, 2, api.ErrRange)
		}
	}
	// One less: what can begin nothing is told as that.
	for _, open := range []string{"(", "a[", "f(", "-", "!", "~"} {
		head := "func main() { return " + strings.Repeat("(", 21)
		for _, next := range []string{";", "$", "12ab", "while", "}", "]", ",", "=", "", "\xff", "+", "{"} {
			bad(t, "L3", head+open+"\n"+next, 2, api.ErrSyntax)
		}
		bad(t, "L3", head+open+"\n1 2", 2, api.ErrSyntax)
		bad(t, "L3", head+open+"\n4294967296", 2, api.ErrRange)
	}
	// An operation of one begins with its sign.
	for _, sign := range []string{"-", "!", "~"} {
		head := "func main() { return " + strings.Repeat("(", 22)
		bad(t, "L3", head+"\n"+sign+"\n1", 2, api.ErrRange)
		bad(t, "L3", head+"\n"+sign+"\n$", 2, api.ErrRange)
		bad(t, "L3", head+"1 +\n"+sign+"\n1", 2, api.ErrRange)
		bad(t, "L3", head+"1\n"+sign+"\n$", map[string]int{"-": 3, "!": 2, "~": 2}[sign], api.ErrSyntax)
	}
}

// A call without arguments begins no level between its brackets.
func TestNoLevelInEmptyBrackets(t *testing.T) {
	text := "func f() { return 1; } func main() { return " + strings.Repeat("(", 22) + "f()" + strings.Repeat(")", 22) + "; }"
	comes(t, "L3", text, 1)
	bad(t, "L3", strings.Replace(text, "f())", "f(\n1))", 1), 2, api.ErrRange)
	deep := "func f() {} func main() {" + strings.Repeat("if 1 {", 23)
	good(t, "L3", deep+" f(); "+strings.Repeat("}", 24), deep+strings.Repeat("}", 24))
	for _, s := range []string{"f(\n1);", "f(\n;", "let x =\n1;", "x =\n$", "x[\n", "if\n{", "while\n1", "return\n1;", "print\n;"} {
		bad(t, "L3", deep+s, 2, api.ErrRange)
	}
	for _, s := range []string{"\n1", "\nf;", "let\n1", "let x\n;", "x\n;", "f()\n}", "\n$", "\n"} {
		bad(t, "L3", deep+s, 2, api.ErrSyntax)
	}
}

// An operation of two is no level, and levels that have ended count no more.
func TestNoLevels(t *testing.T) {
	sum := strings.Repeat("1 + ", 1500) + "1"
	comes(t, "L3", whole(sum), 1501)
	many := strings.Repeat("(1) + -1 + a[0] + f(1) + ", 100) + "1"
	comes(t, "L3", "var a[1]; func f(x) { return x; }"+whole(many), 101)
	comes(t, "L3", body(strings.Repeat("if 1 { } else { } while 0 { } ", 200)+" return 3;"), 3)
	comes(t, "L3", body(strings.Repeat("if 1 { if 1 { } } ", 300)+"return "+strings.Repeat("(", 22)+"9"+strings.Repeat(")", 22)+";"), 9)
	// The second of an operation stands in the same level as the first.
	comes(t, "L3", whole(strings.Repeat("(", 21)+"1 + -1 * 2"+strings.Repeat(")", 21)), -1)
}

// Kinds of levels in one another count together.
func TestLevelsTogether(t *testing.T) {
	for blocks := 1; blocks <= 24; blocks++ {
		for brackets := 0; blocks+1+brackets <= 26; brackets++ {
			for _, minus := range []int{0, 1, 3} {
				text := body(strings.Repeat("if 1 {", blocks-1) + "return " + strings.Repeat("(", brackets) + "\n" + strings.Repeat("-", minus) + "1" + strings.Repeat(")", brackets) + ";" + strings.Repeat("}", blocks-1))
				if levels := blocks + 1 + brackets + minus; levels <= 24 {
					good(t, fmt.Sprintf("L3: %d levels", levels), text)
				} else if blocks+1+brackets <= 25 {
					bad(t, fmt.Sprintf("L3: %d levels", levels), text, 2, api.ErrRange)
				} else {
					bad(t, fmt.Sprintf("L3: %d levels", levels), text, 1, api.ErrRange)
				}
			}
		}
	}
}
