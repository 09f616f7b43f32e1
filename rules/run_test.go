package rules

import (
	"math/rand"
	"slices"
	"strings"
	"testing"

	"oocore/api"
	"oocore/asm"
	"oocore/gen"
	"oocore/plain"
	"oocore/run"
)

// Assemble's error comes first, and with an error nothing else is told.
func TestRunAnyText(t *testing.T) {
	line := strings.Repeat("5a", 16)
	for n, text := range anyTexts() {
		words, _, err := asm.Assemble(text)
		want := plain.Told(err)
		if err == nil && len(words) == 0 {
			want = api.ErrImage
		}
		s, err := run.Text(text, []string{"", line}[n%2], simple(), 20)
		if plain.Told(err) != want || (s == "") != (err != nil) {
			t.Errorf("P1, P3: Text(%.40q) = %.60q, %v, want %v", text, s, err, want)
		}
		s, err = run.Text("ebreak", text, simple(), 20)
		if among(t, "Text", err, api.ErrImage); (s == "") != (err != nil) || err == nil && len(text)%32 != 0 {
			t.Errorf("P1: Text with the data %.40q = %.60q, %v", text, s, err)
		}
	}
}

// Compile's error comes first, then Assemble's, and with an error nothing else is told.
func TestRunAnySource(t *testing.T) {
	for n, text := range anySources() {
		s, words, err := gen.Compile(text, 30)
		if err == nil {
			_, _, err = asm.Assemble(s)
		}
		want := plain.Told(err)
		o, err := run.Source(text, 30, simple(), n%200)
		if plain.Told(err) != want || !o.Ended && !isNothing(o) || o.Ended && (err != nil || len(o.Globals) != words) {
			t.Errorf("P1, P3: Source(%.40q) = %+v, %v, want %v", text, o, err, want)
		}
	}
}

// Each number of a configuration, the cycles and the stack, at the ends of all widths.
func TestRunOfAnyNumbers(t *testing.T) {
	for _, n := range append([]int{2, 3, 4, 10, 34, 64, 128, 512, 513}, extremes...) {
		for k := range 16 {
			c, cycles, stack := simple(), 300, 20
			*[]*int{&c.Width, &c.Window, &c.Queue, &c.Registers, &c.Units, &c.MulCycles, &c.Guess.Kind, &c.Guess.Bits, &c.Guess.History, &c.Guess.Targets, &c.Guess.Returns, &c.Cache.Sets, &c.Cache.Ways, &c.BusCycles, &cycles, &stack}[k] = n
			s, err := run.Text(storing, strings.Repeat("0", 32), c, cycles)
			if among(t, "Text", err, api.ErrRange, api.ErrConfig); (s == "") != (err != nil) {
				t.Errorf("P1: Text on %+v, %d cycles: %.60q, %v", c, cycles, s, err)
			}
			o, err := run.Source("var g; func main() { g = g + 1; print g; return g / 2; }", stack, c, cycles)
			if among(t, "Source", err, api.ErrRange, api.ErrConfig); err != nil && !isNothing(o) || err == nil && o.Ended != (len(o.Globals) == 1) {
				t.Errorf("P1: Source with a stack of %d on %+v, %d cycles: %+v, %v", stack, c, cycles, o, err)
			}
			if out := n < 0 || n > 512; k == 15 && out != (plain.Told(err) == api.ErrRange) {
				t.Errorf("P3: a stack of %d: %v", n, err)
			}
		}
	}
}

// What comes out is the caller's: written over, up to its capacity, it changes nothing else. The same call is answered alike, whatever other calls came in between.
func TestRunsAreApart(t *testing.T) {
	r := rand.New(rand.NewSource(57))
	const source = "var g; var a[5]; func main() { let i = 0; while i < 5 { a[i] = i * i; g = g + a[i]; print 65 + i; i = i + 1; } return g; }"
	data := strings.Repeat("03", 32)
	first, err := run.Source(source, 11, simple(), 5000)
	if err != nil || first.Value != 30 || first.Out != "ABCDE" || !slices.Equal(first.Globals, []uint32{30, 0, 1, 4, 9, 16}) {
		t.Fatalf("P2: %+v, %v", first, err)
	}
	told, err := run.Text(busy, data, simple(), 5000)
	if err != nil || !strings.HasPrefix(told, "ended after 76 instructions\n") {
		t.Fatalf("P2: %q, %v", told, err)
	}
	texts, sources := anyTexts(), anySources()
	for range 150 {
		c := simple()
		c.Width, c.Window, c.BusCycles = 1+r.Intn(4), 2+r.Intn(30), r.Intn(11)
		run.Text(texts[r.Intn(len(texts))], data, c, r.Intn(300))
		run.Text(busy, data, c, r.Intn(300))
		run.Source(sources[r.Intn(len(sources))], r.Intn(513), c, r.Intn(300))
		run.Source(source, r.Intn(20), c, r.Intn(900))
		if again, err := run.Text(busy, data, simple(), 5000); err != nil || again != told {
			t.Fatalf("P2: %q, %v, and first %q", again, err, told)
		}
		again, err := run.Source(source, 11, simple(), 5000)
		if err != nil || !sameOutcome(first, again) {
			t.Fatalf("P2: another outcome, %+v, %v", again, err)
		}
		clear(again.Globals[:cap(again.Globals)])
	}
}
