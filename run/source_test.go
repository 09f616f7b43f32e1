package run_test

import (
	"fmt"
	"slices"
	"sort"
	"strings"
	"testing"

	"oocore/api"
	"oocore/asm"
	"oocore/core"
	"oocore/gen"
	"oocore/lang"
	"oocore/run"
)

const mostSteps = 20000

func isNothing(o api.Outcome) bool {
	return !o.Ended && o.Out == "" && o.Value == 0 && o.Fault == 0 && len(o.Globals) == 0
}

func same(a, b api.Outcome) bool {
	return a.Ended == b.Ended && a.Out == b.Out && a.Value == b.Value && a.Fault == b.Fault && slices.Equal(a.Globals, b.Globals)
}

// meant is what a program comes to, and the least steps in which it does; -1: it takes more than there may be.
func meant(t *testing.T, text string, stack int) (api.Outcome, int) {
	t.Helper()
	want, err := lang.Eval(text, stack, mostSteps)
	if err != nil {
		t.Fatalf("Eval(%.100q, %d): %v", text, stack, err)
	}
	if !want.Ended {
		return want, -1
	}
	return want, sort.Search(mostSteps, func(n int) bool {
		o, _ := lang.Eval(text, stack, n)
		return o.Ended
	})
}

// enough is how many cycles are enough for so many steps.
func enough(steps int) int { return 1000*steps + 2000 }

// agrees: a program comes to what the language says, in as many cycles as are enough, as far as there may be so many. It tells what that is.
func agrees(t *testing.T, text string, stack int, made ...api.Config) api.Outcome {
	t.Helper()
	want, steps := meant(t, text, stack)
	if steps < 0 {
		t.Fatalf("%.100q does not end", text)
	}
	for _, c := range made {
		cycles := min(enough(steps), api.MaxCycles)
		if got, err := run.Source(text, stack, c, cycles); err != nil || !same(got, want) {
			t.Fatalf("R2, R3: %q with a stack of %d on %+v, %d cycles for %d steps: %+v, %v, want %+v", text, stack, c, cycles, steps, got, err, want)
		}
	}
	return want
}

// cyclesOf a program, by a core's own report.
func cyclesOf(t *testing.T, text string, stack int, c api.Config) int {
	t.Helper()
	s, words, err := gen.Compile(text, stack)
	if err != nil {
		t.Fatal(err)
	}
	code, _, err := asm.Assemble(s)
	if err != nil {
		t.Fatal(err)
	}
	x, err := core.Run(code, make([]byte, (4*(words+stack)+15)/16*16), c, nil, api.MaxCycles)
	if err != nil || !x.Ended {
		t.Fatalf("%.100q: ended %v, %v", text, x.Ended, err)
	}
	return x.Cycles
}

func TestExamplesOfSource(t *testing.T) {
	for _, c := range makes(10, 20) {
		for _, x := range []struct {
			text  string
			stack int
			want  api.Outcome
		}{
			{"func main() { let i = 0; while i < 3 { print 65 + i; i = i + 1; } return i; }", 20, api.Outcome{Ended: true, Out: "ABC", Value: 3}},
			{"var a[2]; func main() { a[2] = 1; }", 10, api.Outcome{Ended: true, Fault: 1, Globals: []uint32{0, 0}}},
			{"func f() { return f(); } func main() { return f(); }", 100, api.Outcome{Ended: true, Fault: 2}},
			{"func main() { return 7; }", 10, api.Outcome{Ended: true, Value: 7}},
			{"func main() { return 7; }", 9, api.Outcome{Ended: true, Fault: 2}},
			{"var g; var a[3]; func main() { a[2] = 5; g = a[2] + 1; return a[3]; }", 10, api.Outcome{Ended: true, Fault: 1, Globals: []uint32{6, 0, 0, 5}}},
			{"func main() { print 65; print 321; return -7 / 2 * 10 + -7 % 2; }", 10, api.Outcome{Ended: true, Out: "AA", Value: 1<<32 - 31}},
			{"var g; var a[3]; func f(n) { g = g + n; if n < 1 { return 0; } return f(n - 1); } func main() { a[1] = f(3); a[2] = 5; return g; }", 54, api.Outcome{Ended: true, Value: 6, Globals: []uint32{6, 0, 0, 5}}},
			{"var g; var a[3]; func f(n) { g = g + n; if n < 1 { return 0; } return f(n - 1); } func main() { a[1] = f(3); a[2] = 5; return g; }", 53, api.Outcome{Ended: true, Fault: 2, Globals: []uint32{6, 0, 0, 0}}},
		} {
			if got := agrees(t, x.text, x.stack, c); !same(got, x.want) {
				t.Errorf("L5: %s: %+v, want %+v", x.text, got, x.want)
			}
			if got, err := run.Source(x.text, x.stack, c, 20000); err != nil || !same(got, x.want) {
				t.Errorf("R2: %s with a stack of %d on %+v: %+v, %v, want %+v", x.text, x.stack, c, got, err, x.want)
			}
		}
	}
}

// sources are programs of all kinds, which end with a stack of any size.
func sources() []string {
	return []string{
		"func main() { }",
		"func main() { return 4294967295; }",
		"var g; func main() { g = 2147483648; print 0; print 255; print 256; return -g; }",
		"var a[25]; func main() { let i = 2; while i < 25 { if !a[i] { print i; let j = i * i; while j < 25 { a[j] = 1; j = j + i; } } i = i + 1; } }",
		"func f(n) { if n < 2 { return n; } return f(n - 1) + f(n - 2); } func main() { return f(5); }",
		"var a[8]; func swap(i, j) { let k = a[i]; a[i] = a[j]; a[j] = k; } func main() { let i = 0; while i < 8 { a[i] = i * 5 % 8; i = i + 1; } i = 0; while i < 7 { let j = 0; while j < 7 - i { if a[j] > a[j + 1] { swap(j, j + 1); } j = j + 1; } i = i + 1; } return a[0] * 10 + a[7]; }",
		"var g; func f(x) { g = g * 10 + x; return x; } func main() { return (f(0) && f(1)) + (f(2) || f(3)) * 2 + (f(4) && f(5)) * 4; }",
		"func f(a, b, c, d, e, g) { return a + b * 2 + c * 4 + d * 8 + e * 16 + g * 32; } func main() { return 1 + f(1, f(0, 0, 0, 0, 0, 1), 3, 4, 5, 6); }",
		"func digits(n) { if n > 9 { digits(n / 10); } print 48 + n % 10; } func main() { digits(1234567890); print 10; digits(0); }",
		"func f() { print 65; return 66; } func main() { print f(); print f() + 1; }",
		"var a[3]; var n; func main() { n = 1; while 1 { a[n] = n * n; n = n + 1; print n; } }",
		"var g; func f(x) { g = g + x; return f(x * 3) + 1; } func main() { return f(1); }",
		"func main() { let x = 123456789; let n = 0; while x != 0 { n = n + (x & 1); x = x >> 1; } print n; return -n * ~n / 3 % 1000 << 3 ^ 5 | 64; }",
		"var a[4]; func i(k) { print 48 + k; return k; } func main() { a[i(1)] = i(2) - (i(3) - i(4)); a[i(0)] = a[i(1)] << i(5); a[i(7)] = i(6); }",
		"func main() { return 1 / 0 + 7 % 0 + (-2147483648 / -1) + 2147483647 * 2147483647; }",
	}
}

func TestSourcesOnAllMakes(t *testing.T) {
	for k, text := range sources() {
		for _, stack := range []int{0, 9, 10, 25, 60, 511, 512} {
			agrees(t, text, stack, makes(int64(20+k), 8)...)
		}
	}
}

// Any fewer cycles than it takes, and nothing is told; with just as many, all.
func TestSourceIsCutOff(t *testing.T) {
	for _, text := range sources() {
		for _, c := range makes(11, 2) {
			cycles := cyclesOf(t, text, 60, c)
			for _, n := range []int{0, 1, 2, cycles / 3, cycles / 2, cycles - 2, cycles - 1} {
				if o, err := run.Source(text, 60, c, n); err != nil || !isNothing(o) || o.Globals != nil {
					t.Errorf("R2: %s on %+v, %d cycles of %d: %+v, %v", text, c, n, cycles, o, err)
				}
			}
			want, _ := meant(t, text, 60)
			for _, n := range []int{cycles, cycles + 1, api.MaxCycles} {
				if o, err := run.Source(text, 60, c, n); err != nil || !same(o, want) {
					t.Errorf("R2: %s on %+v, %d cycles of %d: %+v, %v, want %+v", text, c, n, cycles, o, err, want)
				}
			}
		}
	}
	for _, n := range []int{0, 1, 500, 20000} {
		if o, err := run.Source("var g; func main() { while 1 { g = g + 1; print g; } }", 20, plainly(), n); err != nil || !isNothing(o) {
			t.Errorf("R2: a program without an end, %d cycles: %+v, %v", n, o, err)
		}
	}
}

// Global words and stack words of all numbers, so that they take whole lines and others: the first and the last of them are used.
func TestSizesOfSource(t *testing.T) {
	for globals := range 9 {
		var vars, sets strings.Builder
		for k := range globals {
			fmt.Fprintf(&vars, "var g%d; ", k)
			fmt.Fprintf(&sets, "g%d = %d - g%d; ", k, 1000*k+7, k)
		}
		text := vars.String() + "func f(x) { let y = x + 1; let z = y * 2; return z - x; } func main() { let a = 5; " + sets.String() + "let b = f(a); print b; return b + f(b); }"
		for stack := 20; stack < 34; stack++ {
			o := agrees(t, text, stack, makes(int64(globals), 2)...)
			if fits := stack >= 25; len(o.Globals) != globals || fits != (o.Fault == 0) || fits != (o.Out != "") {
				t.Errorf("L5: %d global words, a stack of %d: %+v", globals, stack, o)
			}
		}
	}
	for _, x := range []struct {
		vars, array, words int
	}{{0, 1, 1}, {1, 256, 257}, {256, 256, 512}, {255, 256, 511}, {253, 255, 508}, {1, 1, 2}} {
		text := fmt.Sprintf("var b[%d]; ", x.array)
		if x.vars > 0 {
			text = fmt.Sprintf("var c[%d]; ", x.vars) + text + fmt.Sprintf("func k() { c[0] = 9; c[%d] = c[0] + c[%d]; } ", x.vars-1, x.vars-1)
		} else {
			text += "func k() {} "
		}
		text += fmt.Sprintf("func main() { k(); b[0] = 3; b[%d] = b[%d] + 4; return b[0] - b[%d]; }", x.array-1, x.array-1, x.array-1)
		for _, stack := range []int{0, 1, 19, 20, 21, 22, 23, 509, 510, 511, 512} {
			if o := agrees(t, text, stack, makes(int64(stack), 2)...); len(o.Globals) != x.words || (o.Fault == 0) != (stack >= 20) {
				t.Errorf("L5: %s with a stack of %d: %+v", text, stack, o)
			}
		}
	}
}

// The deepest calls that a stack of the most words has room for, and one call more.
func TestStacks(t *testing.T) {
	const deep = "func f(n) { if n { return 1 + f(n - 1); } return 0; } func main() { return f(%d); }"
	for _, c := range makes(12, 3) {
		if o := agrees(t, fmt.Sprintf(deep, 44), 512, c); o.Fault != 0 || o.Value != 44 {
			t.Errorf("L5: %+v", o)
		}
		if o := agrees(t, fmt.Sprintf(deep, 45), 512, c); o.Fault != 2 || o.Value != 0 {
			t.Errorf("L5: %+v", o)
		}
		if o := agrees(t, "var g; func main() { g = 1; print 65; return 9; }", 0, c); o.Fault != 2 || o.Out != "" || o.Globals[0] != 0 {
			t.Errorf("L5: %+v", o)
		}
	}
}
