package gen_test

import (
	"fmt"
	"strings"
	"testing"

	"oocore/api"
	"oocore/gen"
	"oocore/lang"
)

func TestStackInRange(t *testing.T) {
	for _, stack := range []int{0, 1, 9, 10, 11, 255, 511, 512} {
		if _, _, err := gen.Compile(body(""), stack); err != nil {
			t.Errorf("G1: a stack of %d: %v", stack, err)
		}
	}
	for _, stack := range []int{-1, 513, 514, -512, 1 << 20, -1 << 40, 1<<63 - 1, -1 << 63} {
		refused(t, body(""), stack, api.ErrRange)
	}
}

// frames is a program that makes so many calls of f within each other, each with so many locals.
func frames(calls, locals int) string {
	more := strings.Join(strings.SplitAfter(lets(locals), "; ")[1:], "")
	return "var g; func f(x0) { " + more + " g = g + 1; if x0 > 1 { return f(x0 - 1) + 1; } return 1; }" + whole(fmt.Sprintf("f(%d)", calls))
}

// The last word of the stack is enough, one below is not.
func TestLastWordOfTheStack(t *testing.T) {
	for _, c := range [][2]int{{1, 1}, {1, 2}, {1, 24}, {2, 3}, {3, 7}, {10, 24}, {14, 24}, {20, 5}, {45, 1}} {
		needed := 10 + c[0]*(10+c[1])
		comes(t, frames(c[0], c[1]), needed, c[0])
		fails(t, frames(c[0], c[1]), needed-1, 2, "", uint32(c[0]-1))
	}
	fails(t, body("return 7;"), 0, 2, "")
	fails(t, body("return 7;"), 9, 2, "")
	comes(t, body("return 7;"), 10, 7)
	comes(t, body("let x = 7; return x;"), 11, 7)
	fails(t, body("let x = 7; return x;"), 10, 2, "")
	comes(t, body(lets(24)+"return x23;"), 34, 24)
	fails(t, body(lets(24)+"return x23;"), 33, 2, "")
	// 512 words, all taken: main takes 10, f 22 times 11, and k 10 times 26.
	const all = "func f(n) { if n { return f(n - 1); } return k(10); } func k(n) { %s if n > 1 { return k(n - 1); } return 9; }"
	comes(t, fmt.Sprintf(all, strings.Join(strings.SplitAfter(lets(16), "; ")[1:], ""))+whole("f(21)"), 512, 9)
	fails(t, fmt.Sprintf(all, strings.Join(strings.SplitAfter(lets(16), "; ")[1:], ""))+whole("f(21)"), 511, 2, "")
	fails(t, fmt.Sprintf(all, strings.Join(strings.SplitAfter(lets(17), "; ")[1:], ""))+whole("f(21)"), 512, 2, "")
}

// Every stack up to 512, with programs that never have enough and those that have at some point.
func TestEveryStack(t *testing.T) {
	for stack := 0; stack <= 512; stack += 1 + stack/60 {
		for _, text := range []string{
			"var g; func f(n) { g = n; return f(n + 1); }" + whole("f(1)"),
			"var g; func f(n, m) { let x = n; g = g + x; print x; return f(n + 1, f(m, n)); }" + whole("f(1, 2)"),
			frames(9, 3), frames(1, 24), body("print 1;"),
		} {
			agree(t, text, stack)
		}
	}
}

// The stack is given back: the same words do for any number of calls, one after the other.
func TestStackIsGivenBack(t *testing.T) {
	comes(t, "var g; func f(a) { let b = a + 1; g = g + b; return b; }"+body("let i = 0; while i < 60 { f(i); i = i + 1; } return g;"), 23, 1830)
	comes(t, "func f(a) { if a { return 1; } while 1 { if a == 0 { return 2; } } }"+whole(strings.TrimSuffix(strings.Repeat("f(0) + f(1) + ", 20), "+ ")), 21, 60)
	comes(t, "func k() { } func f() { k(); k(); return k() + 1; }"+whole("f() + f() * f()"), 30, 2)
	fails(t, "func k() { } func f() { k(); k(); return k() + 1; }"+whole("f() + f() * f()"), 29, 2, "")
}

// The arguments are evaluated ahead of the fault, and what stands behind it is not done.
func TestFaultOfTheStack(t *testing.T) {
	fails(t, told+"func f(x, y) { print 70; return 1; }"+whole("told(1) + f(told(2), told(3)) + told(4)"), 21, 2, "123")
	comes(t, told+"func f(x, y) { print 70; return 1; }"+whole("told(1) + f(told(2), told(3)) + told(4)"), 22, 6)
	fails(t, "var g; var a[2]; func f() { return 1; }"+body("g = 5; a[1] = 6; a[0] = f(); g = 7;"), 10, 2, "", 5, 0, 6)
	// The index is wrong first, or the stack is.
	fails(t, "var a[2]; func f() { return 1; }"+body("a[0] = 3; a[a[2] + f()] = 1;"), 10, 1, "", 3, 0)
	fails(t, "var a[2]; func f() { return 1; }"+body("a[0] = 3; a[f() + a[2]] = 1;"), 10, 2, "", 3, 0)
	fails(t, "var a[2]; func f(x) { return 1; }"+body("f(a[2]);"), 10, 1, "", 0, 0)
	fails(t, "var a[2]; func f() { return 1; }"+body("a[2] = f();"), 10, 2, "", 0, 0)
	fails(t, "var a[2]; func f() { return 1; }"+body("a[2] = f();"), 20, 1, "", 0, 0)
}

// The code is the same whatever room there is behind: data that have just room, and more.
func TestRoomOfData(t *testing.T) {
	for globals := range 9 {
		for _, stack := range []int{0, 9, 10, 21, 22, 23, 24, 32, 33, 512} {
			text := "func f(n) { return n + 1; } func main() { return f(f(41)); }"
			if globals > 0 {
				text = fmt.Sprintf("var a[%d]; func f(n) { a[%d] = n; return n + 1; } func main() { return f(f(41)); }", globals, globals-1)
			}
			want, _ := agree(t, text, stack)
			code, words := assembled(t, text, stack)
			for _, data := range []int{room(words, stack), room(words, stack) + 16, api.MaxData} {
				if data > api.MaxData {
					continue
				}
				f := run(t, code, data, 1000)
				if !f.halted || f.value != want.Value || f.fault != uint32(want.Fault) || words != globals {
					t.Errorf("G2: %d bytes of data: %+v, want %+v", data, f, want)
				}
				for _, v := range f.data[words+stack:] {
					if v != 0 {
						t.Errorf("G2: words behind the stack are written: %v", f.data[words+stack:])
					}
				}
			}
		}
	}
	// All the data that there may be.
	text := "var a[256]; var b[256]; func f(n) { b[255 - n] = n; a[n] = n; if n < 44 { f(n + 1); } }" + body("f(0);")
	if o, f := agree(t, text, 512); o.Fault != 0 || len(f.data) != 1024 {
		t.Errorf("G2: %+v, %d words", o, len(f.data))
	}
}

// A program that never ends does not halt.
func TestWithoutEnd(t *testing.T) {
	for _, text := range []string{body("while 1 { }"), body("while 1 { print 1; }"), "var g; func f() { g = g + 1; return 1; }" + body("while f() { }")} {
		if o, err := lang.Eval(text, 30, mostSteps); err != nil || o.Ended {
			t.Fatalf("Eval(%q): %+v, %v", text, o, err)
		}
		code, words := assembled(t, text, 30)
		if f := run(t, code, room(words, 30), 50000); f.halted {
			t.Errorf("G2: %q halts: %+v", text, f)
		}
	}
}
