package gen_test

import (
	"fmt"
	"strings"
	"testing"
)

const (
	six  = "func six(a, b, c, d, e, g) { return a + b * 10 + c * 100 + d * 1000 + e * 10000 + g * 100000; }"
	told = "func told(x) { print 48 + x; return x; }"
)

// Arguments that are calls stand in any places among those that are none.
func TestArguments(t *testing.T) {
	for mask := range 64 {
		var list, out []string
		for n := range 6 {
			if mask>>n&1 == 1 {
				list = append(list, fmt.Sprintf("told(%d)", n+1))
				out = append(out, fmt.Sprint(n+1))
			} else {
				list = append(list, fmt.Sprint(n+1))
			}
		}
		call := "six(" + strings.Join(list, ", ") + ")"
		for _, c := range []struct {
			text string
			want int
		}{{call, 654321}, {"1 + " + call, 654322}, {call + " - 1", 654320}, {"told(0) + " + call, 654321}, {"2 - (1 - " + call + ")", 654322}, {"-" + call, -654321}} {
			o, _ := agree(t, six+told+whole(c.text), 50)
			want := strings.Join(out, "")
			if strings.HasPrefix(c.text, "told(0)") {
				want = "0" + want
			}
			if o.Value != uint32(c.want) || o.Out != want {
				t.Errorf("G2: %s comes to %+v, want %d, %q", c.text, o, c.want, want)
			}
		}
	}
}

// Every number of parameters, each with its own value.
func TestNumberOfParameters(t *testing.T) {
	for n := range 7 {
		var names, given []string
		sum, want := "5", 5
		for k := range n {
			names = append(names, fmt.Sprintf("p%d", k))
			given = append(given, fmt.Sprint(k+2))
			sum = fmt.Sprintf("%s * 3 + p%d", sum, k)
			sum = "(" + sum + ")"
			want = want*3 + k + 2
		}
		text := fmt.Sprintf("func f(%s) { return %s; }", strings.Join(names, ", "), sum)
		comes(t, text+whole("f("+strings.Join(given, ", ")+")"), 20+n, want)
		fails(t, text+whole("f("+strings.Join(given, ", ")+")"), 19+n, 2, "")
	}
}

// Calls within calls, as first, as last, and as every argument.
func TestCallsWithinCalls(t *testing.T) {
	inner := "six(1, 2, 3, 4, 5, 6)"
	comes(t, six+whole("six("+inner+", 0, 0, 0, 0, 0)"), 50, 654321)
	comes(t, six+whole("six(0, 0, "+inner+", 0, 0, 0)"), 50, 65432100)
	comes(t, six+"func id(x) { return x; }"+whole("six("+inner+", "+inner+", "+inner+", id(5), id(id(6) - 1), id(7))"), 50, 654321*111+755000)
	comes(t, "func i(x) { return x + 1; }"+whole(strings.Repeat("i(", 22)+"0"+strings.Repeat(")", 22)), 21, 22)
	comes(t, "func k(x, y) { return x * 2 + y; }"+whole("k(k(k(1, 2), k(3, 4)), k(k(5, 6), k(7, 8)))"), 50, 2*(2*4+10)+2*16+22)
	comes(t, "func k(x, y) { return x - y; } func z() { return 9; }"+whole("k(z(), k(z(), k(z(), k(z(), k(z(), k(1, z()))))))"), 50, 17)
	o, _ := agree(t, told+six+whole("six(told(1) + told(2), 7 - told(3), told(told(4)), told(5) && told(0), told(0) || told(0), -told(6))"), 50)
	if o.Out != "1234450006" {
		t.Errorf("G2: %q is printed", o.Out)
	}
}

// What was evaluated ahead of a call stays as it was, whatever the call writes.
func TestWhatACallWrites(t *testing.T) {
	const f = "var g; var a[3]; func f(x) { g = g + 10; a[0] = a[0] + 1; a[1] = a[1] + 1; let y = 77; let z = 88; return x + (y - (z - (y - (z - (y - (z - y)))))); }"
	for _, text := range []string{"g + f(1)", "f(1) + g", "g * 1000 + f(1) * g", "a[a[0]] + f(2) * a[a[0]]", "g - (g - f(1) - g) - g", "f(g) - f(g)", "(f(g) < f(g)) + (f(g) >= f(g)) * 2", "a[f(0) - 77 + g % 10]", "g + (f(0) && g) + g", "-g - ~f(!g)", "f(f(f(g)))"} {
		agree(t, f+whole(text), 100)
		agree(t, f+body("g = 4; a[0] = 1; let b = "+text+"; return b + g;"), 100)
		agree(t, f+body("let b = 5; g = 3; b = b + "+text+"; a[b % 1] = "+text+"; print "+text+"; if "+text+" { g = g * 3; } return b;"), 100)
	}
}

func TestRecursion(t *testing.T) {
	comes(t, "func f(n) { if n == 0 { return 0; } return n + f(n - 1); }"+whole("f(44)"), 505, 44*45/2)
	fails(t, "func f(n) { if n == 0 { return 0; } return n + f(n - 1); }"+whole("f(44)"), 504, 2, "")
	comes(t, "func f(n) { if n == 0 { return 0; } return f(n - 1) + n; }"+whole("f(40) * 2 - f(3)"), 512, 40*41-6)
	comes(t, "func f(n, a, b) { if n == 0 { return a; } return f(n - 1, b, a + b); }"+whole("f(30, 0, 1)"), 512, 832040)
	comes(t, "func p(n, k) { if k == 0 || k == n { return 1; } return p(n - 1, k - 1) + p(n - 1, k); }"+whole("p(9, 4)"), 512, 126)
	comes(t, "func q(n) { return n && n - q(n - 1) || 0; }"+whole("q(6) * 10 + q(5)"), 512, 11)
	agree(t, "func h(n) { if n < 1 { return 0; } return n - h(h(n - 1)); }"+whole("h(9)"), 512)
	agree(t, "func a(n) { let x = n * 3; if n > 0 { x = x + b(n - 1); } return x; } func b(n) { let x = n * 5; let y = x + 1; if n > 0 { y = y + a(n - 1) + x; } return y + n; }"+whole("a(9) + b(8)"), 512)
}
