package gen_test

import (
	"encoding/binary"
	"fmt"
	"slices"
	"strings"
	"testing"

	"oocore/api"
	"oocore/arch"
	"oocore/asm"
	"oocore/gen"
	"oocore/lang"
	"oocore/plain"
)

const mostSteps = 20000

// shown is a text, cut short where it is long.
func shown(text string) string {
	if len(text) > 200 {
		return text[:200] + ".."
	}
	return text
}

// body is a program whose main has these statements.
func body(statements string) string { return "func main() {" + statements + "}" }

// whole is a program that comes to an expression.
func whole(expression string) string { return body("return " + expression + ";") }

// assembled is the code of a program, and how many global words it has.
func assembled(t *testing.T, text string, stack int) ([]uint32, int) {
	t.Helper()
	s, words, err := gen.Compile(text, stack)
	if err != nil {
		t.Fatalf("G1: Compile(%q, %d): %v", shown(text), stack, err)
	}
	code, line, err := asm.Assemble(s)
	if err != nil {
		lines := strings.Split(s, "\n")
		t.Fatalf("G1: %q is not assembled: line %d, %q, of %d: %v", shown(text), line, lines[max(0, line-1)], len(lines), err)
	}
	return code, words
}

// finish is how a program ended.
type finish struct {
	out          string
	value, fault uint32
	data         []uint32 // all words
	instructions int
	halted       bool
	cause        int // of the last instruction
}

// room is how many bytes of data there are.
func room(words, stack int) int { return (4*(words+stack) + 15) / 16 * 16 }

// run does code with so many bytes of data, all 0, for at most so many instructions.
func run(t *testing.T, code []uint32, data, most int) finish {
	t.Helper()
	m, err := arch.New(code, make([]byte, data))
	if err != nil {
		t.Fatalf("G1: code of %d words, data of %d bytes: %v", len(code), data, err)
	}
	f := finish{cause: api.None}
	for f.instructions < most {
		r, is := m.Step()
		if !is {
			break
		}
		f.instructions++
		f.cause = r.Cause
	}
	f.out, f.value, f.fault, f.halted = m.Out(), m.Hart().Reg(10), m.Hart().Reg(11), m.Hart().Halted()
	for rest := m.Data(); len(rest) > 0; rest = rest[4:] {
		f.data = append(f.data, binary.LittleEndian.Uint32(rest))
	}
	return f
}

// bound is how many instructions a program may take.
func bound(steps int) int { return 30*(steps+1) + 60 }

// agree: a program that ends, compiled and run, comes to what the language says, in as many instructions as it may take. It tells what Eval does, and how it ran.
func agree(t *testing.T, text string, stack int) (api.Outcome, finish) {
	t.Helper()
	want, err := lang.Eval(text, stack, mostSteps)
	if err != nil || !want.Ended {
		t.Fatalf("Eval(%q, %d): %+v, %v", shown(text), stack, want, err)
	}
	code, words := assembled(t, text, stack)
	if words != len(want.Globals) {
		t.Fatalf("G1: %q has %d global words, want %d", shown(text), words, len(want.Globals))
	}
	f := run(t, code, room(words, stack), bound(mostSteps))
	switch {
	case !f.halted || f.cause != api.Breakpoint:
		t.Fatalf("G2: %q with a stack of %d: after %d instructions: halted %v, with the cause %d", shown(text), stack, f.instructions, f.halted, f.cause)
	case f.out != want.Out || f.value != want.Value || f.fault != uint32(want.Fault):
		t.Fatalf("G2: %q with a stack of %d: %q, %d, fault %d, want %q, %d, fault %d", shown(text), stack, f.out, f.value, f.fault, want.Out, want.Value, want.Fault)
	case !slices.Equal(f.data[:words], want.Globals):
		t.Fatalf("G2: %q with a stack of %d: words %v, want %v", shown(text), stack, f.data[:words], want.Globals)
	}
	// With any fewer steps than these, so many instructions would be too many.
	if fewer := (f.instructions-61)/30 - 1; fewer >= 0 {
		if o, err := lang.Eval(text, stack, min(fewer, mostSteps)); err != nil || o.Ended || bound(fewer) >= f.instructions {
			t.Fatalf("G2: %q with a stack of %d: %d instructions for %d steps", shown(text), stack, f.instructions, fewer)
		}
	}
	return want, f
}

// comes: a program that ends without a fault, with a value.
func comes(t *testing.T, text string, stack, value int) {
	t.Helper()
	if o, _ := agree(t, text, stack); o.Fault != 0 || o.Value != uint32(value) {
		t.Errorf("G2: %q with a stack of %d: %+v, want %d", shown(text), stack, o, uint32(value))
	}
}

// fails: a program that ends with a fault, having printed something; these are its global words.
func fails(t *testing.T, text string, stack, fault int, out string, words ...uint32) {
	t.Helper()
	o, _ := agree(t, text, stack)
	if o.Fault != fault || o.Value != 0 || o.Out != out || !slices.Equal(o.Globals, words) {
		t.Errorf("G2: %q with a stack of %d: %+v, want fault %d, %q, %v", shown(text), stack, o, fault, out, words)
	}
}

// refused: Compile tells an error, and nothing else.
func refused(t *testing.T, text string, stack int, want api.Errno) {
	t.Helper()
	s, words, err := gen.Compile(text, stack)
	if plain.Told(err) != want || s != "" || words != 0 {
		t.Errorf("G1: Compile(%q, %d) = %q, %d, %v, want %v", shown(text), stack, shown(s), words, err, want)
	}
}

// lets are so many of them, each with a name of its own.
func lets(n int) string {
	var s strings.Builder
	for k := range n {
		fmt.Fprintf(&s, "let x%d = %d; ", k, k+1)
	}
	return s.String()
}

const pairs = "|| && | ^ & == != < <= > >= << >> + - * / %"

// edges are numbers at which something turns.
var edges = []uint32{0, 1, 2, 3, 5, 31, 32, 33, 255, 256, 2047, 2048, 2049, 4095, 4096, 4097, 65535, 65536, 1<<31 - 2049, 1<<31 - 2048, 1<<31 - 1, 1 << 31, 1<<31 + 1, 1<<32 - 4097, 1<<32 - 4096, 1<<32 - 2049, 1<<32 - 2048, 1<<32 - 2047, 1<<32 - 2, 1<<32 - 1}
