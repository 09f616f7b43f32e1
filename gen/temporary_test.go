package gen_test

import (
	"fmt"
	"strings"
	"testing"

	"oocore/lang"
)

// deep is an expression whose seconds nest: with n operations it needs n + 1 temporaries. The parts are used one after the other.
func deep(n int, parts ...string) string {
	signs := strings.Fields("- * + ^ - | & - *")
	s := ""
	for k := range n {
		s += parts[k%len(parts)] + " " + signs[k] + " ("
	}
	return s + parts[n%len(parts)] + strings.Repeat(")", n)
}

const parts = "var g; var v[4]; func one() { return 11; } func two(x, y) { g = g + 1; return x * 3 - y; } func big(a, b, c, d, e, h) { return a - b * 2 + c * 4 - d * 8 + e * 16 - h * 32; }"

// Eight temporaries, of all kinds, with calls in each place among them.
func TestEightTemporaries(t *testing.T) {
	kinds := []string{"7", "g", "i", "v[1]", "one()", "two(g, 3)", "-i", "!g", "v[one() - 9]", "(5 && i)", "(0 || one())"}
	tried := map[int]int{}
	for n := range 8 {
		for k, first := range kinds {
			second := kinds[(k+1)%len(kinds)]
			third := kinds[(k+5)%len(kinds)]
			for _, text := range []string{deep(n, first), deep(n, first, second), deep(n, first, second, third), deep(n, kinds[k:]...)} {
				program := parts + body("let i = 4; g = 3; v[1] = 6; v[2] = 9; v[3] = 1; return "+text+";")
				if _, err := lang.Check(program); n == 7 && err != nil {
					continue // the innermost part needs more than one itself
				}
				agree(t, program, 60)
				tried[n]++
			}
		}
	}
	if tried[7] < 30 {
		t.Errorf("only %d programs have 8 temporaries", tried[7])
	}
	for place := range 8 {
		list := strings.Fields("1 2 3 4 5 6 7 8")
		list[place] = "one()"
		agree(t, parts+whole(deep(7, list...)), 60)
	}
}

// Calls whose arguments need as many as there are left.
func TestArgumentsThatNeedMuch(t *testing.T) {
	for ahead := range 6 {
		for _, part := range []string{"5", "g", "one()", "two(g, g)"} {
			for n := range 8 - ahead {
				list := make([]string, 6)
				for k := range list {
					list[k] = fmt.Sprint(k + 1)
				}
				if part == "two(g, g)" && n+ahead == 7 {
					continue
				}
				list[ahead] = deep(n, part)
				for _, first := range []string{"1", "one()", "g"} {
					list[0] = map[bool]string{true: list[0], false: first}[ahead == 0]
					agree(t, parts+whole("big("+strings.Join(list, ", ")+")"), 60)
				}
			}
		}
	}
	// Seven temporaries are there when a call is made with what needs one.
	for _, inner := range []string{"one()", "two(1, 2)", "one() + 0"} {
		n := 7
		if inner != "one()" {
			n = 6
		}
		agree(t, parts+whole(deep(n, "9", "8", "g", "one()", "6", "5", "4", "3")+" + "+inner), 60)
		text := ""
		for k := range n {
			text += fmt.Sprintf("%d - (", k+3)
		}
		agree(t, parts+whole(text+inner+strings.Repeat(")", n)), 60)
		agree(t, parts+whole(text+inner+" || "+inner+strings.Repeat(")", n)), 60)
		agree(t, parts+whole(text+"!"+inner+" && "+inner+strings.Repeat(")", n)), 60)
	}
	agree(t, parts+whole("1 - (2 - big(3 - (4 - (5 - (6 - (7 - 8)))), 3 - (4 - (5 - (6 - one()))), 3 - (4 - (5 - 6)), one() - (4 - 5), 3 - one(), one()))"), 60)
	agree(t, parts+whole("big(one(), 2 - big(1, one(), 3, 4, one(), 6), 3 - two(one(), 1 - two(one(), 3)), 4, 5, one())"), 100)
	agree(t, parts+whole("big(1 - (2 - (3 - (4 - (5 - (6 - (7 - one())))))), 1 - (2 - (3 - (4 - (5 - (6 - one()))))), 1 - (2 - (3 - (4 - (5 - one())))), 1 - (2 - (3 - (4 - one()))), 1 - (2 - (3 - one())), 1 - (2 - one()))"), 100)
}

// Of a put both the place and the value may need as many as there are.
func TestPutsThatNeedMuch(t *testing.T) {
	for _, place := range []string{"2", deep(7, "1") + " & 3", "(" + deep(7, "one()") + ") & 3", "two(1, 0)", "v[v[one() - 11]]", "g"} {
		for _, value := range []string{"5", deep(6, "4"), deep(6, "one()"), "two(1, one())", "v[v[0]] + one()", deep(6, "3", "one()"), deep(6, "one()", "3"), deep(6, "g", "g", "one()")} {
			agree(t, parts+body("v[0] = 3; v[3] = 2; v[1] = 7; v["+place+"] = "+value+"; return g;"), 60)
		}
	}
}

// Twenty-four levels of nesting, of each kind.
func TestTwentyFourLevels(t *testing.T) {
	const head = "var g; var a[4]; func f(x) { g = g + x; return x % 4; } func main() { "
	for _, c := range [][3]string{{"return ", "(", ")"}, {"return ", "a[", "]"}, {"return ", "f(", ")"}, {"return ", "-", ""}, {"return ", "~", ""}, {"return ", "!", ""}, {"return ", "f(a[", "])"}, {"return ", "f(-a[", "])"}, {"return ", "-(", ")"}, {"print ", "f(", ")"}, {"g = ", "a[f(", ")]"}, {"let x = ", "!(1 && ", ")"}, {"let x = ", "(0 || ", ")"}} {
		times := 22 / max(1, strings.Count(c[1], "(")+strings.Count(c[1], "[")+strings.Count(c[1], "-")+strings.Count(c[1], "~")+strings.Count(c[1], "!"))
		inside := "1"
		agree(t, head+c[0]+strings.Repeat(c[1], times)+inside+strings.Repeat(c[2], times)+"; }", 60)
	}
	for _, c := range []string{"if g < 30 { g = g + 1; ", "while g < 40 { g = g + 1; ", "if g > 50 { g = 3; } else { g = g + 2; "} {
		agree(t, "var g; func main() { "+strings.Repeat(c, 22)+"g = g * 3; "+strings.Repeat("} ", 22)+"return g; }", 60)
		agree(t, "var g; func f() { g = g + 1; return g; } func main() { "+strings.Repeat(strings.Replace(c, "g + 1", "f()", 1), 22)+"return f() + g; "+strings.Repeat("} ", 22)+"return g; }", 60)
	}
}
