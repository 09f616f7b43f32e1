package rules

import (
	"errors"
	"slices"
	"strings"
	"testing"

	"oocore/api"
	"oocore/asm"
	"oocore/plain"
)

// anyTexts are texts of all kinds: of each byte, of signs that the lines are made of, of none of them.
func anyTexts() []string {
	texts := []string{"", "\n", strings.Repeat(":", 60000), strings.Repeat(",", 60000), strings.Repeat("(", 60000), "j " + strings.Repeat("a", 50000), ".word " + strings.Repeat("9", 50000), strings.Repeat("a\n", 100000), "\xff\xfe\xfd", "a:\x80", "nop\u2028nop"}
	parts := []string{"", "x1", "x2,", "-", "0x", "12", "(", ")", "(x1)", "a:", "a", "#", ",", " ", "add", "lw", "li", ".word", "j", "fence", "\t", "\n"}
	for _, a := range parts {
		for _, b := range parts {
			for _, c := range parts {
				texts = append(texts, a+b+c, a+" "+b+" "+c, "addi x1, "+a+b+c, "lw x1, "+a+b+c)
			}
		}
	}
	for b := range 256 {
		sign := string([]byte{byte(b)})
		texts = append(texts, sign, "nop"+sign, sign+"nop", "a"+sign+":", "j a"+sign, "li x1, 1"+sign, "lw x1, 1"+sign+"(x2)")
	}
	return texts
}

// With an error there are no words; without one, the line is 0.
func TestAssembleAnyText(t *testing.T) {
	for _, text := range anyTexts() {
		words, line, err := asm.Assemble(text)
		told := plain.Told(err)
		switch {
		case err == nil && line != 0:
			t.Errorf("P1: Assemble(%.40q) = line %d, and no error", text, line)
		case err != nil && len(words) != 0:
			t.Errorf("P1: Assemble(%.40q) = %08x, %v", text, words, err)
		case err != nil && told != api.ErrSyntax && told != api.ErrRange && told != api.ErrLabel && told != api.ErrImage:
			t.Errorf("P3: Assemble(%.40q) = %v", text, err)
		case err != nil && (line < 1 || line > strings.Count(text, "\n")+1) && told != api.ErrImage:
			t.Errorf("P1: Assemble(%.40q) = line %d, %v", text, line, err)
		}
	}
}

func TestPrintOfAnyNumbers(t *testing.T) {
	for _, op := range extremes {
		for _, n := range extremes {
			for _, m := range extremes {
				asm.Print(api.Instr{Op: api.Op(op), Rd: n, Rs1: m, Rs2: n, Imm: m})
				asm.Print(api.Instr{Op: api.Op(op), Rs1: n, Imm: m})
				asm.Print(api.Instr{Op: api.Op(op), Rd: n, Rs2: m})
			}
		}
	}
}

// What one call answered is not changed by writing into it, nor by another call.
func TestAssembleIsFresh(t *testing.T) {
	text := "a: li x1, 0x12345678\nbeqz x1, a\nj b\nb: ret"
	first, _, err := asm.Assemble(text)
	kept := slices.Clone(first)
	second, _, _ := asm.Assemble(text)
	if err != nil || len(first) != 5 || !slices.Equal(first, second) {
		t.Fatalf("P2: Assemble = %08x, and then %08x, %v", first, second, err)
	}
	for k := range second {
		second[k] = 0
	}
	if _, _, err := asm.Assemble("b: j c\n?"); !errors.Is(err, api.ErrSyntax) {
		t.Errorf("P3: %v is not ErrSyntax", err)
	}
	third, _, _ := asm.Assemble(text)
	if !slices.Equal(first, kept) || !slices.Equal(third, kept) {
		t.Errorf("P2: Assemble = %08x, then %08x, want %08x", first, third, kept)
	}
}
