package run_test

import (
	"fmt"
	"strings"
	"testing"

	"oocore/api"
	"oocore/asm"
	"oocore/gen"
	"oocore/plain"
	"oocore/run"
)

// input is an argument, and what is wrong with it; OK: nothing.
type input[T any] struct {
	is    T
	wrong api.Errno
}

func configs() []input[api.Config] {
	wide, late, none := plainly(), plainly(), api.Config{}
	wide.Width, late.BusCycles = 5, 11
	return []input[api.Config]{{plainly(), api.OK}, {wide, api.ErrConfig}, {late, api.ErrConfig}, {none, api.ErrConfig}}
}

func cycles() []input[int] {
	return []input[int]{{0, api.OK}, {60, api.OK}, {api.MaxCycles, api.OK}, {-1, api.ErrRange}, {api.MaxCycles + 1, api.ErrRange}}
}

// first is the first one that is wrong.
func first(wrong ...api.Errno) api.Errno {
	for _, e := range wrong {
		if e != api.OK {
			return e
		}
	}
	return api.OK
}

// wrongData are no data: other digits, other signs, half a byte, no whole lines, more than there may be.
func wrongData() []string {
	line := strings.Repeat("0", 32)
	list := []string{"0", "00", "0g", "0g" + line[2:], "g0" + line[2:], line[1:], line + "0", line + "00", line[:16], line[:30], line + line[:16], strings.Repeat(line, 257), strings.Repeat("0", 8194), strings.Repeat(line, 256) + "00", strings.Repeat("0", 4112), line[:31] + "\n", line + "\n", " " + line[1:], line[:16] + " " + line[:16], "0x" + line[2:], "0x" + line, "+1" + line[2:], "-1" + line[2:], "1_" + line[2:], "é" + line[2:], "é" + line, line[:30] + "٣", strings.Repeat("zz", 16), "\x00\x00" + line[2:]}
	return append(list, strings.Repeat(line, 255)+line[:30], strings.Repeat(line, 255)+line[:30]+"0g")
}

func TestWrongData(t *testing.T) {
	for _, data := range wrongData() {
		s, err := run.Text("ebreak", data, plainly(), 60)
		if plain.Told(err) != api.ErrImage || s != "" {
			t.Errorf("R1: %d signs of data, %.50q: %q, %v", len(data), data, s, err)
		}
	}
	// Each byte that is no digit, as the first and as the last sign.
	for b := range 256 {
		sign := string([]byte{byte(b)})
		want := api.ErrImage
		if strings.Contains("0123456789abcdefABCDEF", sign) {
			want = api.OK
		}
		for _, data := range []string{sign + strings.Repeat("0", 31), strings.Repeat("0", 31) + sign, strings.Repeat("0", 4096) + sign + strings.Repeat("0", 4095)} {
			if s, err := run.Text("ebreak", data, plainly(), 60); plain.Told(err) != want || (s == "") != (want != api.OK) {
				t.Errorf("R1: data with the sign %q: %.100q, %v", sign, s, err)
			}
		}
	}
}

// All that may be wrong, with all else that may be: the first is told, and nothing else.
func TestFirstErrorOfText(t *testing.T) {
	texts := []input[string]{
		{"ebreak", api.OK}, {strings.Repeat("nop\n", 4096), api.OK},
		{"x", api.ErrSyntax}, {"nop\nnop x1", api.ErrSyntax}, {"addi x1, x1, 2048", api.ErrRange}, {"j a", api.ErrLabel}, {"a: nop\na: nop", api.ErrLabel}, {strings.Repeat("nop\n", 4097), api.ErrImage}, {strings.Repeat("#", 60001), api.ErrImage}, {"beqz x1, a\n" + strings.Repeat("nop\n", 2000) + "a:", api.ErrRange},
	}
	empty := []input[string]{{"", api.ErrImage}, {"# nothing\n\na:\n", api.ErrImage}, {strings.Repeat("\n", 60000), api.ErrImage}}
	data := []input[string]{{"", api.OK}, {strings.Repeat("0", 32), api.OK}, {strings.Repeat("aF", 4096), api.OK}}
	for _, d := range wrongData() {
		data = append(data, input[string]{d, api.ErrImage})
	}
	for _, d := range data {
		for _, c := range configs() {
			for _, n := range cycles() {
				for _, x := range texts {
					refusesText(t, x.is, d.is, c.is, n.is, first(x.wrong, d.wrong, n.wrong, c.wrong))
				}
				for _, x := range empty {
					refusesText(t, x.is, d.is, c.is, n.is, first(d.wrong, n.wrong, x.wrong, c.wrong))
				}
			}
		}
	}
}

func refusesText(t *testing.T, text, data string, c api.Config, cycles int, want api.Errno) {
	t.Helper()
	s, err := run.Text(text, data, c, cycles)
	if plain.Told(err) != want || (s == "") != (want != api.OK) {
		t.Errorf("R1: %.30q with %d signs of data, %.20q, on %+v, %d cycles: %.50q, %v, want %v", text, len(data), data, c, cycles, s, err, want)
	}
}

// tooLong is a program that Check takes, and that comes to more words than there may be, in a text of a length that may be, or to a text that is too long itself.
func tooLong(units int) string {
	return "var a[1]; func main() { " + strings.Repeat("a[a[0]] = 0; ", units) + "}"
}

func TestFirstErrorOfSource(t *testing.T) {
	texts := []input[string]{
		{"func main() { return 1; }", api.OK}, {"var a[256]; var b[256]; func main() { b[255] = 1; }", api.OK},
		{"x", api.ErrSyntax}, {"", api.ErrLabel}, {"func main(a) {}", api.ErrLabel}, {"func main() { return x; }", api.ErrLabel}, {"var a[257]; func main() {}", api.ErrRange}, {"func main() { return 4294967296; }", api.ErrRange},
		{"func main() { return 1 + (2 + (3 + (4 + (5 + (6 + (7 + (8 + 9))))))); }", api.ErrFull}, {"var a[256]; var b[256]; var c; func main() {}", api.ErrImage}, {strings.Repeat(" ", 8001), api.ErrImage},
	}
	long := []string{tooLong(300), tooLong(600)}
	stacks := []input[int]{{0, api.OK}, {512, api.OK}, {-1, api.ErrRange}, {513, api.ErrRange}}
	for _, k := range stacks {
		for _, c := range configs() {
			for _, n := range cycles() {
				for _, x := range texts {
					refusesSource(t, x.is, k.is, c.is, n.is, first(x.wrong, k.wrong, n.wrong, c.wrong))
				}
				for _, x := range long {
					refusesSource(t, x, k.is, c.is, n.is, first(k.wrong, api.ErrImage))
				}
			}
		}
	}
}

func refusesSource(t *testing.T, text string, stack int, c api.Config, cycles int, want api.Errno) {
	t.Helper()
	o, err := run.Source(text, stack, c, cycles)
	if plain.Told(err) != want || want != api.OK && !isNothing(o) {
		t.Errorf("R2: %.60q with a stack of %d on %+v, %d cycles: %+v, %v, want %v", text, stack, c, cycles, o, err, want)
	}
}

// The texts above are too long in either way; the longest that is not is run.
func TestLongestSource(t *testing.T) {
	most := 0
	for units := range 600 {
		s, _, err := gen.Compile(tooLong(units), 20)
		if err != nil {
			t.Fatalf("%d: %v", units, err)
		}
		if code, _, err := asm.Assemble(s); err == nil && len(code) <= 4096 {
			most = units
		}
		if units == 300 && len(s) > 60000 {
			t.Errorf("%d bytes: there are to be too many words, and not too many bytes", len(s))
		}
		if units == 599 && len(s) <= 60000 {
			t.Errorf("%d bytes: there are to be too many", len(s))
		}
	}
	if _, err := run.Source(tooLong(most+1), 20, plainly(), 100000); plain.Told(err) != api.ErrImage {
		t.Errorf("R2: %d units: %v", most+1, err)
	}
	if o, err := run.Source(tooLong(most), 20, plainly(), 100000); err != nil || !o.Ended || o.Fault != 0 || fmt.Sprint(o.Globals) != "[0]" {
		t.Errorf("R2: %d units: %+v, %v", most, o, err)
	}
}
