package rules

import (
	"math/rand"
	"testing"

	"oocore/api"
	"oocore/asm"
	"oocore/gen"
	"oocore/lang"
	"oocore/plain"
)

// Compile tells Check's error first, and with an error nothing else; without one there is a text that can be assembled, unless it is too long.
func TestCompileAnyText(t *testing.T) {
	for n, text := range anySources() {
		_, wrong := lang.Check(text)
		for _, stack := range []int{50, extremes[n%len(extremes)]} {
			s, words, err := gen.Compile(text, stack)
			want := plain.Told(wrong)
			if want == api.OK && (stack < 0 || stack > 512) {
				want = api.ErrRange
			}
			if plain.Told(err) != want {
				t.Errorf("P3: Compile(%.40q, %d): %v, want %v", text, stack, err, want)
			}
			if err != nil {
				if s != "" || words != 0 {
					t.Errorf("P1: Compile(%.40q, %d) = %.40q, %d, %v", text, stack, s, words, err)
				}
				continue
			}
			_, line, err := asm.Assemble(s)
			if told := plain.Told(err); told != api.OK && (len(text) <= 600 || told != api.ErrImage && told != api.ErrRange) {
				t.Errorf("G1: %.40q, compiled: line %d, %v", text, line, err)
			}
		}
	}
}

func TestCompileAnyStack(t *testing.T) {
	const text = "var g; var a[3]; func f(n) { g = n; return f(n + 1); } func main() { print 1; return f(1); }"
	for _, stack := range append([]int{9, 10, 511, 512, 513}, extremes...) {
		s, words, err := gen.Compile(text, stack)
		among(t, "Compile", err, api.ErrRange)
		if out := stack < 0 || stack > 512; out != (err != nil) || out && (s != "" || words != 0) || !out && (s == "" || words != 4) {
			t.Errorf("P1: a stack of %d: %.40q, %d, %v", stack, s, words, err)
		}
	}
}

// The same call is answered alike, whatever other calls came in between.
func TestCompilesAreApart(t *testing.T) {
	r := rand.New(rand.NewSource(56))
	const text = "var g; var a[5]; func f(x) { return x && f(x - 1); } func main() { let i = 0; while i < 5 { a[i] = i * f(i); g = g + a[i]; print 65 + i; i = i + 1; } return g; }"
	first, words, err := gen.Compile(text, 100)
	if err != nil || words != 6 {
		t.Fatalf("P2: %d words, %v", words, err)
	}
	others := anySources()
	for range 300 {
		gen.Compile(others[r.Intn(len(others))], r.Intn(513))
		gen.Compile(text, r.Intn(600))
		if again, words, err := gen.Compile(text, 100); err != nil || words != 6 || again != first {
			t.Fatalf("P2: another answer: %d words, %v, %.60q", words, err, again)
		}
	}
}
