package asm_test

import (
	"strconv"
	"strings"
	"testing"

	"oocore/api"
)

const (
	nop = 0x00000013
	add = 0x003100b3 // add x1, x2, x3
)

func TestLines(t *testing.T) {
	for _, text := range []string{"", "\n", "\n\n\n", " ", "\t", " \t \n\t", "#", "# nop", "   # : , (", "a:", "a:\nb:", "\ta: # nop", "_:", "Z9_:"} {
		fine(t, "A2", text)
	}
	for _, text := range []string{
		"nop", "nop\n", "\nnop", " nop", "\tnop", "nop ", "nop\t", " \t nop \t ", "nop#", "nop # x: y", "nop ## #", "#\nnop\n#",
		"a:nop", "a: nop", " a:\t nop", "a:\nnop", "nop\na:", "nop # é \x00 \xff \r",
	} {
		fine(t, "A2", text, nop)
	}
	for _, text := range []string{
		"add x1, x2, x3", "add x1,x2,x3", "add\tx1\t,\tx2\t,\tx3", "add   x1 ,x2 \t ,x3", "add \t x1,  x2,\t\tx3 \t", "a_1:add x1,x2,x3#", "\tb:add x1,x2,x3",
	} {
		fine(t, "A2", text, add)
	}
	fine(t, "A2", "nop\n\n nop # two\n\tadd x1, x2, x3\n", nop, nop, add)
}

func TestLinesWrong(t *testing.T) {
	syntax(t, "A2",
		// labels
		":", " : nop", ":nop", "1x:", "9:", "a b: nop", "a : nop", "a\t: nop", "a-b:", "a.b:", "a$:", "é:", "aé:", "a\x00:", "\xff:", "-:", "x: y: nop", "x::", "x: :", "nop x: ", "a,b:", "(a):",
		// blanks that are none
		"nop\r", "\rnop", "\vnop", "nop\f", "\u00a0nop", "nop\x00", "\u2003nop", "add\rx1, x2, x3", "add x1,\rx2, x3", "\r", "\x00", "a:\r",
		// parts
		"addi x1, , 2", "addi x1, x2, 3,", "addi , x1, x2, 3", "addi x1,, 2", "add ,", "add ,,", "nop ,", "nop ,,", "addi,x1, x2, 3", ", nop", ",", "addi x1 x2 3", "addi x1, x2 3", "addi x1; x2; 3", "fence 1 2", "fence ,", "fence ,1", "fence 1,",
	)
	wrong(t, "A2", "nop\r\nnop", 1, api.ErrSyntax)
}

func TestLabelsLength(t *testing.T) {
	name := "abcDEF_234567890"
	for n := 1; n <= 16; n++ {
		fine(t, "A2", name[:n]+": j "+name[:n], 0x0000006f)
	}
	syntax(t, "A2", name+"x:", name+"_: nop", strings.Repeat("a", 17)+":", strings.Repeat("_", 59999)+":", "j "+name+"x", "j "+strings.Repeat("a", 1000), "éééééééé:")
}

// All signs that a label may have, at its beginning and behind it; all others are none.
func TestLabelsSigns(t *testing.T) {
	const letters = "abcdefghijklmnopqrstuvwxyzABCDEFGHIJKLMNOPQRSTUVWXYZ_"
	for c := range 256 {
		sign := string([]byte{byte(c)})
		if sign == "\n" || sign == "#" || sign == ":" {
			continue
		}
		first := strings.Contains(letters, sign)
		if first {
			fine(t, "A2", sign+":")
		} else if strings.Trim(sign, " \t") != "" {
			syntax(t, "A2", sign+":")
		}
		if first || c >= '0' && c <= '9' {
			fine(t, "A2", "a"+sign+":")
		} else {
			syntax(t, "A2", "a"+sign+":")
		}
	}
}

var otherNames = strings.Fields("zero ra sp gp tp t0 t1 t2 s0 s1 a0 a1 a2 a3 a4 a5 a6 a7 s2 s3 s4 s5 s6 s7 s8 s9 s10 s11 t3 t4 t5 t6")

func TestRegisters(t *testing.T) {
	if len(otherNames) != 32 {
		t.Fatalf("%d names", len(otherNames))
	}
	for n, other := range otherNames {
		for _, name := range []string{"x" + strconv.Itoa(n), other} {
			r := uint32(n)
			fine(t, "A3", "add "+name+", x0, x0", 0x33|r<<7)
			fine(t, "A3", "add x0, "+name+", x0", 0x33|r<<15)
			fine(t, "A3", "add x0, x0, "+name, 0x33|r<<20)
			fine(t, "A3", "lw x0, ("+name+")", 0x2003|r<<15)
			fine(t, "A3", "lw "+name+", (zero)", 0x2003|r<<7)
		}
	}
	fine(t, "A3", "mv fp, x0\nmv x0, fp", 0x00000413, 0x00040013)
	for _, name := range []string{
		"x32", "x33", "x99", "x100", "x00", "x01", "x007", "x010", "x-1", "x+1", "x", "x1x", "X1", "x 1", "0", "1", "31", "-1", "r1", "R1", "A0", "SP", "Zero", "ZERO",
		"a8", "a9", "a10", "s12", "s00", "s01", "t7", "a00", "fp0", "f0", "fp ra", "FP", "pc", "sp1", "x1,", "(x1)", "x\u0661", "x1\x00", "x3é", "", "x4294967297", "x18446744073709551617", "zero0",
	} {
		syntax(t, "A3", "add x1, "+name+", x2", "add "+name+", x1, x2", "add x1, x2, "+name, "lw x1, 0("+name+")", "sc.w x1, x2, ("+name+")")
	}
}

func TestNumbers(t *testing.T) {
	for _, c := range []struct {
		text string
		word uint32
	}{
		{"0", 0}, {"1", 1}, {"7", 7}, {"10", 10}, {"-1", 0xffffffff}, {"-0", 0}, {"00", 0}, {"0000000012", 12}, {"-0000000012", 0xfffffff4}, {"08", 8}, {"1234567890", 1234567890},
		{"0x0", 0}, {"0x1", 1}, {"0xa", 10}, {"0xF", 15}, {"0x12", 18}, {"0x00000010", 16}, {"0xabcdef01", 0xabcdef01}, {"0xABCDEF01", 0xabcdef01}, {"0xDEADbeef", 0xdeadbeef}, {"0xffffffff", 0xffffffff},
		{"-0x1", 0xffffffff}, {"-0x0", 0}, {"-0x10", 0xfffffff0}, {"-0x80000000", 0x80000000}, {"-0x7FFFffff", 0x80000001},
		{"2147483647", 0x7fffffff}, {"2147483648", 0x80000000}, {"4294967295", 0xffffffff}, {"-2147483648", 0x80000000}, {"-2147483647", 0x80000001},
	} {
		fine(t, "A3", ".word "+c.text, c.word)
	}
	for _, text := range []string{
		"12345678901", "00000000001", "-12345678901", "-00000000001", "99999999999999999999", "18446744073709551617", "0x123456789", "0x000000001", "-0x123456789",
		"", "-", "--1", "+1", "+", "- 1", "1-", "1 2", "0x", "-0x", "0X1", "0x-1", "0xg", "0xG", "0x 1", "x1", "0x1x", "00x1", "1x", "1a", "a", "f", "0b1", "0o7", "1_0", "1e3", "1.0", ".5", "'a'", "0x1_0", "\u0661", "1é", "1\x00", "0x1\xff", "½", "1)", "(1", "(1)", "\u22121",
	} {
		syntax(t, "A3", ".word "+text, "li x1, "+text, "addi x1, x2, "+text, "lui x1, "+text, "fence "+text, "csrrwi x1, "+text+", 1", "csrrwi x1, 1, "+text)
		if text != "" {
			syntax(t, "A3", "lw x1, "+text+"(x2)", "sw x1, "+text+"(x2)")
		}
		if text != "a" && text != "f" && text != "x1" {
			syntax(t, "A3", "j "+text, "beq x1, x2, "+text)
		}
	}
}

func TestPlaces(t *testing.T) {
	for _, text := range []string{"lw x1, 0(x2)", "lw x1, (x2)", "lw x1,(sp)", "lw ra, 0x0(sp)", "lw x1, -0(x2)", "lw x1 , 0000000000(x2)"} {
		fine(t, "A3", text, 0x00012083)
	}
	fine(t, "A3", "lw x1, -4(x2)\nlw x1, 0x10(x2)\nlw x1, -0x10(x2)", 0xffc12083, 0x01012083, 0xff012083)
	fine(t, "A3", "sw x1, (x2)\nsw x1, 4(x2)\njalr x1, (x2)\njalr x1, -1(x2)", 0x00112023, 0x00112223, 0x000100e7, 0xfff100e7)
	for _, place := range []string{
		"4 (x2)", "4( x2)", "4(x2 )", "( x2)", "4(x2) 1", "4", "x2", "()", "4()", "(4)", "4(4)", "(x2", "4(x2", "x2)", "4x2)", "4(x2))", "4((x2))", "((x2)", "(x2)(x2)", "(x2)4", "4[x2]", "+4(x2)", "-(x2)", "0x(x2)", "x1(x2)", "a(x2)", "(a)", "4(x32)", "4(x02)", "(x2+4)", "", "(", ")", ")(", ")x2(",
	} {
		syntax(t, "A3", "lw x1, "+place, "sw x1, "+place, "jalr x1, "+place, "lbu x1, "+place)
		if place != "(x2)" {
			syntax(t, "A3", "lr.w x1, "+place, "sc.w x1, x3, "+place, "amoadd.w.aq x1, x3, "+place)
		}
	}
	syntax(t, "A3", "lr.w x1, 0(x2)", "lr.w x1, -0(x2)", "sc.w x1, x2, 0(x3)", "amomaxu.w x1, x2, 0x0(x3)", "lr.w x1, 4(x2)", "lr.w x1, x2", "amoadd.w x1, (x2), x3")
	fine(t, "A3", "lr.w x1, (x2)\nsc.w x1, x3, (sp)", 0x100120af, 0x183120af)
}

func TestTargets(t *testing.T) {
	for _, c := range []struct {
		text string
		want []uint32
	}{
		{"a: beq x1, x2, a", []uint32{0x00208063}},
		{"a: jal x1, a", []uint32{0x000000ef}},
		{"beq x1, x2, 8", []uint32{0x00208463}},
		{"beq x1, x2, -0x8", []uint32{0xfe208ce3}},
		{"jal x1, 0x10", []uint32{0x010000ef}},
		{"j b\nnop\nb:", []uint32{0x0080006f, nop}},
		{"j b\nb:", []uint32{0x0040006f}},
		{"b:\nnop\ncall b", []uint32{nop, 0xffdff0ef}},
		{"bne x1, x2, b\nnop\nb: nop\nblt x1, x2, b", []uint32{0x00209463, nop, nop, 0xfe20cee3}},
		{"a:\nb: j a\nj b\nc: j c", []uint32{0x0000006f, 0xffdff06f, 0x0000006f}},
		{"li t0, 0x12345678\nb: li t0, 1\nj b\nj c\nli t0, 4096\nc: nop", []uint32{0x123452b7, 0x67828293, 0x00100293, 0xffdff06f, 0x00c0006f, 0x000012b7, 0x00028293, nop}},
		// names of registers, operations and short instructions are labels like others
		{"x1: j x1\nnop: j nop\nadd: j add\nli: j li\nfp: j fp\nabcdef: j abcdef", []uint32{0x6f, 0x6f, 0x6f, 0x6f, 0x6f, 0x6f}},
		// small and large letters differ
		{"a:\nnop\nA: j a\nj A", []uint32{nop, 0xffdff06f, 0xffdff06f}},
	} {
		fine(t, "A3, A5", c.text, c.want...)
	}
	syntax(t, "A3", "beq x1, x2, 1a", "j a b", "j a-", "j a+4", "j (a)", "j a.b", "j é", "j", "beq x1, x2", "beq x1, x2, ", "jal x1", "jal a", "a: jal x1, x2, a", "a: lw x1, a", "a: lw x1, a(x2)", "a: addi x1, x2, a", "a: lui x1, a", "a: li x1, a", "a: .word a", "a: fence a", "a: jalr x1, a", "a: csrrw x1, a, x2", "beq x1, 8, x2", "beq 8, x1, x2")
}
