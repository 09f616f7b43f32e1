package asm_test

import (
	"strconv"
	"strings"
	"testing"

	"oocore/api"
)

func TestShortForms(t *testing.T) {
	for _, c := range []struct{ short, long string }{
		{"nop", "addi x0, x0, 0"},
		{"ret", "jalr x0, 0(x1)"},
		{"j 16", "jal x0, 16"},
		{"j -16", "jal x0, -16"},
		{"call 0x20", "jal x1, 32"},
		{"call -1048576", "jal x1, -1048576"},
		{"mv x5, x6", "addi x5, x6, 0"},
		{"mv a0, fp", "addi x10, x8, 0"},
		{"not x5, x6", "xori x5, x6, -1"},
		{"neg x5, x6", "sub x5, x0, x6"},
		{"beqz x7, 8", "beq x7, x0, 8"},
		{"bnez x7, -8", "bne x7, x0, -8"},
		{"nop\na: beqz x7, a\nbnez x7, b\nb: j a\ncall b", "nop\na: beq x7, x0, a\nbne x7, x0, b\nb: jal x0, a\njal x1, b"},
	} {
		same(t, "A4", c.short, c.long)
	}
	fine(t, "A4", "nop\nret\nmv x31, x30\nnot x31, x30\nneg x31, x30\nbeqz x31, 4\nbnez x31, 4", 0x00000013, 0x00008067, 0x000f0f93, 0xffff4f93, 0x41e00fb3, 0x000f8263, 0x000f9263)
}

func TestShortFormsWrong(t *testing.T) {
	syntax(t, "A4",
		"nop x1", "nop 0", "ret x1", "ret 0", "j", "j x0, 8", "j 8, 8", "call", "call x1, 8", "mv", "mv x1", "mv x1, x2, x3", "mv x1, 2", "mv 1, x2", "not x1", "not x1, 2", "not x1, x2, x3", "neg x1", "neg x1, -1", "neg x1, x2, x3",
		"beqz x1", "beqz 8", "beqz x1, x0, 8", "beqz 8, x1", "beqz 1, 8", "bnez x1", "bnez x1, x0, 8", "bnez 8, 8", ".word", ".word 1, 2", ".word x1, 2", "li", "li x1", "li 1", "li 1, 1", "li x1, 1, 2", "li x1, x2", "li x1, (x2)", "li x1, 1(x2)", ".word (x1)")
	for _, name := range strings.Fields("NOP Nop nop. .nop nop.w la lla b jr tail bgt ble bgtu bleu seqz snez sltz sgtz bltz bgez csrr csrw subi word .byte .half .long .text .global .rl .aq rdcycle unimp jalr.rl sext.w zext.b fence.i fence.tso sfence.vma mul.w lwu ld sd addiw div.rl amoadd amoadd.d amoadd.w.rlaq amoadd.w.a lr lr.d lr.w.aq.rl lr.w. lr.w.aqrl.rl lr.w.AQ sc.w.rl.aq sc.rl add.aq add.rl lw.aq lui.rl wfi.rl . , - 0 1 x1 a0 ecall. é add\x00 ADD Lw lr.W") {
		syntax(t, "A4", name, name+" x1", name+" x1, x2", name+" x1, x2, x3", name+" x1, (x2)", name+" x1, x2, (x3)", name+" x1, 4(x2)", name+" 4", name+" x1, 4")
	}
}

func TestOrders(t *testing.T) {
	for imm, order := range []string{"", ".rl", ".aq", ".aqrl"} {
		bits := uint32(imm) << 25
		fine(t, "A4", "lr.w"+order+" x1, (x2)", 0x100120af|bits)
		fine(t, "A4", "sc.w"+order+" x1, x3, (x2)", 0x183120af|bits)
		fine(t, "A4", "amoswap.w"+order+" x1, x3, (x2)", 0x083120af|bits)
		fine(t, "A4", "amoadd.w"+order+" x1, x3, (x2)", 0x003120af|bits)
		fine(t, "A4", "amoxor.w"+order+" x1, x3, (x2)", 0x203120af|bits)
		fine(t, "A4", "amoand.w"+order+" x1, x3, (x2)", 0x603120af|bits)
		fine(t, "A4", "amoor.w"+order+" x1, x3, (x2)", 0x403120af|bits)
		fine(t, "A4", "amomin.w"+order+" x1, x3, (x2)", 0x803120af|bits)
		fine(t, "A4", "amomax.w"+order+" x1, x3, (x2)", 0xa03120af|bits)
		fine(t, "A4", "amominu.w"+order+" x1, x3, (x2)", 0xc03120af|bits)
		fine(t, "A4", "amomaxu.w"+order+" x1, x3, (x2)", 0xe03120af|bits)
	}
}

// operandsOf gives each format operands that fit.
var operandsOf = map[byte][]string{
	'U': {"x1", "1"}, 'J': {"x1", "8"}, 'I': {"x1", "x2", "1"}, 'H': {"x1", "x2", "1"}, 'L': {"x1", "4(x2)"}, 'S': {"x1", "4(x2)"}, 'B': {"x1", "x2", "8"},
	'R': {"x1", "x2", "x3"}, 'A': {"x1", "x3", "(x2)"}, 'K': {"x1", "(x2)"}, 'C': {"x1", "1", "x2"}, 'D': {"x1", "1", "2"}, 'F': {"1"}, 'N': {},
}

const formats = "UUJLBBBBBBLLLLLSSSIIIIIIHHHRRRRRRRRRRRRRRRRRRKAAAAAAAAAAFNNNNCCCDDD"

// Each operation with an operand too few, one too many, and one of another kind.
func TestOtherOperands(t *testing.T) {
	for _, k := range known {
		name, _, _ := strings.Cut(k.text, " ")
		parts := operandsOf[formats[k.i.Op-1]]
		join := func(parts ...string) string { return strings.TrimRight(name+" "+strings.Join(parts, ", "), " ") }
		if _, ok := assembled(join(parts...)); !ok {
			t.Errorf("A4: %q is refused", join(parts...))
		}
		for n := range parts {
			syntax(t, "A4", join(parts[:n]...))
		}
		for _, more := range []string{"x4", "1", "(x4)", "4(x4)"} {
			syntax(t, "A4", join(append(append([]string{}, parts...), more)...), join(append([]string{more}, parts...)...))
		}
		for n, part := range parts {
			for _, other := range []string{"x4", "1", "(x4)", "4(x4)", "?", "x", ""} {
				if kindOf(part) == kindOf(other) || kindOf(part) == "place" && kindOf(other) == "bare" {
					continue
				}
				changed := append([]string{}, parts...)
				changed[n] = other
				if target := n == len(parts)-1 && strings.Contains("JB", formats[k.i.Op-1:k.i.Op]); target && (other == "x4" || other == "x") {
					wrong(t, "A5", join(changed...), 1, api.ErrLabel) // it is read as a label
					continue
				}
				syntax(t, "A4", join(changed...))
			}
		}
	}
}

func kindOf(part string) string {
	switch {
	case part == "" || part == "?" || part == "x":
		return "none"
	case part[0] == 'x':
		return "register"
	case part[0] == '(':
		return "bare"
	case strings.Contains(part, "("):
		return "place"
	}
	return "number"
}

func TestLi(t *testing.T) {
	for _, c := range []struct {
		n    string
		want []uint32
	}{
		{"0", []uint32{0x00000293}}, {"-1", []uint32{0xfff00293}}, {"2047", []uint32{0x7ff00293}}, {"-2048", []uint32{0x80000293}},
		{"4294967295", []uint32{0xfff00293}}, {"0xfffff800", []uint32{0x80000293}}, {"4294965248", []uint32{0x80000293}},
		{"2048", []uint32{0x000012b7, 0x80028293}}, {"-2049", []uint32{0xfffff2b7, 0x7ff28293}}, {"4294965247", []uint32{0xfffff2b7, 0x7ff28293}}, {"0xfffff7ff", []uint32{0xfffff2b7, 0x7ff28293}},
		{"4096", []uint32{0x000012b7, 0x00028293}}, {"-4096", []uint32{0xfffff2b7, 0x00028293}}, {"6143", []uint32{0x000012b7, 0x7ff28293}}, {"6144", []uint32{0x000022b7, 0x80028293}},
		{"0x12345678", []uint32{0x123452b7, 0x67828293}}, {"0x12345fff", []uint32{0x123462b7, 0xfff28293}}, {"0x7ffff7ff", []uint32{0x7ffff2b7, 0x7ff28293}}, {"0x7ffff800", []uint32{0x800002b7, 0x80028293}}, {"2147483647", []uint32{0x800002b7, 0xfff28293}},
		{"2147483648", []uint32{0x800002b7, 0x00028293}}, {"-2147483648", []uint32{0x800002b7, 0x00028293}}, {"-0x80000000", []uint32{0x800002b7, 0x00028293}}, {"0x80000000", []uint32{0x800002b7, 0x00028293}},
		{"-2147481601", []uint32{0x800002b7, 0x7ff28293}}, {"-2147481600", []uint32{0x800012b7, 0x80028293}}, {"0xdeadbeef", []uint32{0xdeadc2b7, 0xeef28293}},
	} {
		fine(t, "A4", "li t0, "+c.n, c.want...)
	}
	fine(t, "A4", "li x0, 5\nli zero, 5000\nli x31, 5000", 0x00500013, 0x00001037, 0x38800013, 0x00001fb7, 0x388f8f93)
}

// What li makes comes to the number, by what lui and addi add up to.
func TestLiComesTo(t *testing.T) {
	for n := -1 << 31; n < 1<<32; n += 1<<21 - 1021 {
		words, ok := assembled("li x1, " + strconv.Itoa(n))
		value := uint32(0)
		for _, w := range words {
			if w&0x7f == 0x37 {
				value = w &^ 0xfff
			} else {
				value += uint32(int32(w) >> 20)
			}
		}
		if signed := int32(uint32(n)); !ok || value != uint32(n) || (len(words) == 1) != (signed >= -2048 && signed <= 2047) {
			t.Fatalf("A4: li of %d is %08x, which comes to %d", n, words, value)
		}
	}
}
