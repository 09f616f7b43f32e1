package asm_test

import (
	"slices"
	"strings"
	"testing"

	"oocore/api"
	"oocore/asm"
)

func assembled(text string) ([]uint32, bool) {
	words, line, err := asm.Assemble(text)
	return words, err == nil && line == 0
}

func TestTextSize(t *testing.T) {
	fine(t, "A5", strings.Repeat(" ", 60000))
	fine(t, "A5", strings.Repeat("\n", 60000))
	fine(t, "A5", "nop#"+strings.Repeat("x", 59996), nop)
	wrong(t, "A5", strings.Repeat(" ", 60001), 0, api.ErrImage)
	wrong(t, "A5", strings.Repeat("?", 60001), 0, api.ErrImage)
	wrong(t, "A5", strings.Repeat("?\n", 50000), 0, api.ErrImage)
	wrong(t, "A5", "#"+strings.Repeat("é", 30000), 0, api.ErrImage)
	wrong(t, "A5", strings.Repeat("?", 60000), 1, api.ErrSyntax)
	wrong(t, "A5", strings.Repeat("\n", 59999)+"?", 60000, api.ErrSyntax)
}

func TestImageSize(t *testing.T) {
	full := strings.Repeat("nop\n", 4096)
	words, ok := assembled(full)
	if !ok || len(words) != 4096 || slices.ContainsFunc(words, func(w uint32) bool { return w != nop }) {
		t.Errorf("A5: 4,096 words are %d, %v", len(words), ok)
	}
	for _, end := range []string{"\n\n", "a:\n\n# end", "a:\nb:"} {
		if words, ok := assembled(full + end); !ok || len(words) != 4096 {
			t.Errorf("A5: 4,096 words and %q are refused", end)
		}
	}
	wrong(t, "A5", full+"nop", 4097, api.ErrImage)
	wrong(t, "A5", full+"\n\na:\nb: .word 0", 4100, api.ErrImage)
	wrong(t, "A5", full[4:]+"li x1, 2048", 4096, api.ErrImage)
	wrong(t, "A5", full+"li x1, 1", 4097, api.ErrImage)
	if words, ok := assembled(full[4:] + "li x1, 2047"); !ok || len(words) != 4096 {
		t.Errorf("A5: li of one word is refused as the 4,096th")
	}
	if words, ok := assembled(full[8:] + "li x1, 2048"); !ok || len(words) != 4096 {
		t.Errorf("A5: li of two words is refused as the 4,095th and 4,096th")
	}
	// the other faults of the line come first, those of later lines, and targets, do not
	wrong(t, "A5", full+"nop x1", 4097, api.ErrSyntax)
	wrong(t, "A5", full+"fence 256", 4097, api.ErrRange)
	wrong(t, "A5", "a:"+full+"a: nop", 4097, api.ErrLabel)
	wrong(t, "A5", full+"nop\n?", 4097, api.ErrImage)
	wrong(t, "A5", "j b\n"+full, 4097, api.ErrImage)
}

// The ends of each format's numbers, and one step over them.
func TestRanges(t *testing.T) {
	for _, c := range []struct {
		before, after string
		fits, not     []string
	}{
		{"lui x1, ", "", []string{"0", "1048575", "0xfffff", "-0"}, []string{"-1", "1048576", "0x100000", "0xffffffff", "9999999999"}},
		{"auipc x1, ", "", []string{"0", "1048575"}, []string{"-1", "1048576"}},
		{"jal x1, ", "", []string{"-1048576", "1048574", "2", "-2"}, []string{"-1048577", "-1048578", "1048575", "1048576", "1", "-1", "3", "9999999999", "-9999999999"}},
		{"j ", "", []string{"-1048576", "1048574"}, []string{"-1048578", "1048576", "1"}},
		{"call ", "", []string{"-1048576", "1048574"}, []string{"-1048578", "1048576", "1"}},
		{"beq x1, x2, ", "", []string{"-4096", "4094", "2", "-2"}, []string{"-4097", "-4098", "4095", "4096", "1", "-1", "3", "4294967296"}},
		{"beqz x1, ", "", []string{"-4096", "4094"}, []string{"-4098", "4096", "1"}},
		{"bnez x1, ", "", []string{"-4096", "4094"}, []string{"-4098", "4096", "1"}},
		{"addi x1, x1, ", "", []string{"-2048", "2047", "0x7ff", "-0x800"}, []string{"-2049", "2048", "0xfff", "0xffffffff", "4294967296", "-9999999999"}},
		{"sltiu x1, x1, ", "", []string{"-2048", "2047"}, []string{"-2049", "2048"}},
		{"lw x1, ", "(x2)", []string{"-2048", "2047"}, []string{"-2049", "2048", "0xffffffff"}},
		{"jalr x1, ", "(x2)", []string{"-2048", "2047", "1"}, []string{"-2049", "2048"}},
		{"sw x1, ", "(x2)", []string{"-2048", "2047"}, []string{"-2049", "2048", "4294967296"}},
		{"slli x1, x2, ", "", []string{"0", "31"}, []string{"-1", "32", "4294967296"}},
		{"srai x1, x2, ", "", []string{"0", "31", "0x1f"}, []string{"-1", "32", "0x20"}},
		{"fence ", "", []string{"0", "255"}, []string{"-1", "256"}},
		{"csrrw x1, ", ", x2", []string{"0", "4095"}, []string{"-1", "4096"}},
		{"csrrwi x1, ", ", 1", []string{"0", "4095"}, []string{"-1", "4096"}},
		{"csrrwi x1, 1, ", "", []string{"0", "31"}, []string{"-1", "32", "4294967296", "9999999999"}},
		{"csrrci x1, 4096, ", "", nil, []string{"0", "31", "32"}},
		{".word ", "", []string{"-2147483648", "4294967295", "0xffffffff", "-0x80000000"}, []string{"-2147483649", "4294967296", "-0x80000001", "-0xffffffff", "9999999999", "-9999999999"}},
		{"li x1, ", "", []string{"-2147483648", "4294967295", "0xffffffff", "-0x80000000"}, []string{"-2147483649", "4294967296", "-0x80000001", "-4294967295", "9999999999", "-9999999999"}},
	} {
		for _, n := range c.fits {
			if words, ok := assembled(c.before + n + c.after); !ok || len(words) == 0 {
				t.Errorf("A5: %q is refused", c.before+n+c.after)
			}
		}
		for _, n := range c.not {
			wrong(t, "A5", c.before+n+c.after, 1, api.ErrRange)
			wrong(t, "A5", "\nnop # one\nlabel: "+c.before+n+c.after+"\n?", 3, api.ErrRange)
		}
	}
}

// Where a line has more than one fault, in A5's order; the first line with one is told.
func TestOrderOfFaults(t *testing.T) {
	for _, c := range []struct {
		text string
		line int
		want api.Errno
	}{
		// the syntax of all operands, ahead of numbers
		{"addi x1, x32, 5000", 1, api.ErrSyntax}, {"addi x32, x1, 5000", 1, api.ErrSyntax}, {"lw x1, 5000(y)", 1, api.ErrSyntax}, {"lw x1, 5000(x2), 1", 1, api.ErrSyntax}, {"csrrwi x1, 5000, x1", 1, api.ErrSyntax}, {"csrrwi x1, x1, 32", 1, api.ErrSyntax}, {"csrrw x1, 5000, 1", 1, api.ErrSyntax},
		{"fence 256, 1", 1, api.ErrSyntax}, {".word 9999999999, 1", 1, api.ErrSyntax}, {"li 1, 9999999999", 1, api.ErrSyntax}, {"1a: addi x1, x1, 5000", 1, api.ErrSyntax}, {"beqz 1, 3", 1, api.ErrSyntax},
		// syntax and numbers, ahead of labels
		{"a:\na: nop x", 2, api.ErrSyntax}, {"a:\na: fence 256", 2, api.ErrRange}, {"a:\na: li x1, 9999999999", 2, api.ErrRange}, {"a:\na: j b", 2, api.ErrLabel}, {"a: a", 1, api.ErrSyntax},
		// a label that was there, on whatever earlier line
		{"a:\na:", 2, api.ErrLabel}, {"a: nop\n\n\nb:\na: nop", 5, api.ErrLabel}, {"a:\nb:\nc:\nb:\na:", 4, api.ErrLabel}, {"abcDEF_234567890:\nabcDEF_234567890:", 2, api.ErrLabel},
		// lines are read ahead of targets
		{"j a\nadd", 2, api.ErrSyntax}, {"j a\nfence 256", 2, api.ErrRange}, {"j a\nb:\nb:", 3, api.ErrLabel}, {"?\n?", 1, api.ErrSyntax}, {"nop\nfence 256\n?", 2, api.ErrRange}, {"a:\na:\n?", 2, api.ErrLabel},
		// targets, in order
		{"j a", 1, api.ErrLabel}, {"j a\nj b\na:", 2, api.ErrLabel}, {"j b\nj a\na:", 1, api.ErrLabel}, {"nop\n\nx: j y\nj z", 3, api.ErrLabel}, {"j A\na:", 1, api.ErrLabel}, {"A: j a", 1, api.ErrLabel}, {"beqz x1, ra", 1, api.ErrLabel},
	} {
		wrong(t, "A5", c.text, c.line, c.want)
	}
	far := strings.Repeat("nop\n", 1100)
	wrong(t, "A5", "beq x0, x0, z\nj y\n"+far+"z:", 1, api.ErrRange)
	wrong(t, "A5", "j y\nbeq x0, x0, z\n"+far+"z:", 1, api.ErrLabel)
	wrong(t, "A5", "beq x0, x0, z\n"+far+"z: nop x", 1102, api.ErrSyntax)
}

func TestFarTargets(t *testing.T) {
	lines := func(n int) string { return strings.Repeat("nop\n", n) }
	for _, c := range []struct {
		text string
		line int
		want api.Errno
	}{
		{"beq x0, x0, z\n" + lines(1022) + "z:", 0, api.OK}, {"beq x0, x0, z\n" + lines(1023) + "z:", 1, api.ErrRange},
		{"z:" + lines(1024) + "beq x0, x0, z", 0, api.OK}, {"z:" + lines(1025) + "beq x0, x0, z", 1026, api.ErrRange},
		{"z:" + lines(1024) + "bnez x1, z", 0, api.OK}, {"\nz:" + lines(1025) + "bnez x1, z", 1027, api.ErrRange},
		{"j z\n" + lines(4095) + "z:", 0, api.OK}, {"z:" + lines(4095) + "call z", 0, api.OK},
	} {
		if c.want != api.OK {
			wrong(t, "A5", c.text, c.line, c.want)
		} else if _, ok := assembled(c.text); !ok {
			t.Errorf("A5: %q.. is refused", c.text[:20])
		}
	}
	words, _ := assembled("z:" + lines(1024) + "beq x0, x0, z\n" + "bgeu x0, x0, y\n" + lines(1022) + "y:\n")
	if len(words) != 2048 || words[1024] != 0x80000063 || words[1025] != 0x7e007ee3 {
		t.Errorf("A5: the farthest branches are other words")
	}
	words, _ = assembled("j z\n" + lines(4094) + "call a\nz:\n\ta:")
	if len(words) != 4096 || words[0] != 0x0000406f || words[4095] != 0x004000ef {
		t.Errorf("A5: a label at the end of all words: %d words, %08x, %08x", len(words), words[0], words[4095])
	}
}

// Examples of the chapter.
func TestExamples(t *testing.T) {
	fine(t, "A5", "a: beq x1, x2, a", 0x00208063)
	fine(t, "A4", "li t0, 0x12345678", 0x123452b7, 0x67828293)
	fine(t, "A4", "li t0, 4294967295", 0xfff00293)
	syntax(t, "A5", "lw x1, 4 (x2)", "add x1, x2", "addi x1, , 2", "x: y: nop")
	wrong(t, "A5", "addi x1, x1, 2048", 1, api.ErrRange)
}
