package asm_test

import (
	"math/rand"
	"regexp"
	"slices"
	"strconv"
	"strings"
	"testing"

	"oocore/api"
	"oocore/asm"
	"oocore/isa"
	"oocore/plain"
)

// A second reading of the chapter, by patterns: each line is one of them, or none.

const (
	registerPattern = `(x[0-9]|x[12][0-9]|x3[01]|zero|ra|sp|gp|tp|t[0-6]|s[0-9]|s1[01]|a[0-7]|fp)`
	numberPattern   = `(-?(?:[0-9]{1,10}|0x[0-9a-fA-F]{1,8}))`
	labelPattern    = `[A-Za-z_][A-Za-z0-9_]{0,15}`
)

// pattern of a line's instruction; fields says what its groups are: d, a, b registers, i and n numbers, t a target, p a number that may be left out.
type pattern struct {
	whole  *regexp.Regexp
	fields string
	start  api.Instr
	size   string // "word", "li", or "": one instruction
}

func makePattern(name, operands, fields string, start api.Instr, size string) pattern {
	text := strings.NewReplacer("R", registerPattern, "N", numberPattern, "P", numberPattern+`?`, "T", `(-?(?:[0-9]{1,10}|0x[0-9a-fA-F]{1,8})|`+labelPattern+`)`, ",", `[ \t]*,[ \t]*`).Replace(operands)
	if text != "" {
		text = `[ \t]+` + text
	}
	return pattern{regexp.MustCompile(`^` + regexp.QuoteMeta(name) + text + `$`), fields, start, size}
}

func patterns() []pattern {
	formOf := map[byte][2]string{
		'U': {"R,N", "di"}, 'J': {"R,T", "dt"}, 'I': {"R,R,N", "dai"}, 'H': {"R,R,N", "dai"}, 'L': {`R,P\(R\)`, "dpa"}, 'S': {`R,P\(R\)`, "bpa"}, 'B': {"R,R,T", "abt"}, 'R': {"R,R,R", "dab"},
		'A': {`R,R,\(R\)`, "dba"}, 'K': {`R,\(R\)`, "da"}, 'C': {"R,N,R", "dia"}, 'D': {"R,N,N", "din"}, 'F': {"N", "i"}, 'N': {"", ""},
	}
	all := []pattern{
		makePattern("nop", "", "", api.Instr{Op: api.Addi}, ""), makePattern("ret", "", "", api.Instr{Op: api.Jalr, Rs1: 1}, ""), makePattern("j", "T", "t", api.Instr{Op: api.Jal}, ""), makePattern("call", "T", "t", api.Instr{Op: api.Jal, Rd: 1}, ""),
		makePattern("mv", "R,R", "da", api.Instr{Op: api.Addi}, ""), makePattern("not", "R,R", "da", api.Instr{Op: api.Xori, Imm: -1}, ""), makePattern("neg", "R,R", "db", api.Instr{Op: api.Sub}, ""),
		makePattern("beqz", "R,T", "at", api.Instr{Op: api.Beq}, ""), makePattern("bnez", "R,T", "at", api.Instr{Op: api.Bne}, ""), makePattern(".word", "N", "i", api.Instr{}, "word"), makePattern("li", "R,N", "di", api.Instr{}, "li"),
	}
	for _, k := range known {
		name, _, _ := strings.Cut(k.text, " ")
		form := formOf[formats[k.i.Op-1]]
		if k.i.Op < api.LrW || k.i.Op > api.AmoMaxu {
			all = append(all, makePattern(name, form[0], form[1], api.Instr{Op: k.i.Op}, ""))
			continue
		}
		name = name[:strings.Index(name, ".w")+2]
		for imm, order := range []string{"", ".rl", ".aq", ".aqrl"} {
			all = append(all, makePattern(name+order, form[0], form[1], api.Instr{Op: k.i.Op, Imm: imm}, ""))
		}
	}
	return all
}

func registerOf(name string) int {
	if name == "fp" {
		return 8
	}
	if n := slices.Index(otherNames, name); n >= 0 {
		return n
	}
	n, _ := strconv.Atoi(name[1:])
	return n
}

func numberOf(text string) (int, bool) {
	base, digits := 10, strings.TrimPrefix(text, "-")
	if strings.HasPrefix(digits, "0x") {
		base, digits = 16, digits[2:]
	}
	n, err := strconv.ParseInt(digits, base, 64)
	if strings.HasPrefix(text, "-") {
		n = -n
	}
	return int(n), err == nil
}

func (p pattern) read(groups []string) (api.Instr, string) {
	i, label := p.start, ""
	for k, field := range p.fields {
		part := groups[k+1]
		switch field {
		case 'd':
			i.Rd = registerOf(part)
		case 'a':
			i.Rs1 = registerOf(part)
		case 'b':
			i.Rs2 = registerOf(part)
		case 'n':
			i.Rs1, _ = numberOf(part)
		default:
			n, ok := numberOf(part)
			if i.Imm = n; !ok && field == 't' {
				label = part
			}
		}
	}
	return i, label
}

// wordsOf: what an instruction, or .word, or li comes to.
func (p pattern) wordsOf(i api.Instr) ([]uint32, bool) {
	if p.size == "" {
		w, ok := isa.Encode(i)
		return []uint32{w}, ok
	}
	if i.Imm < -1<<31 || i.Imm >= 1<<32 {
		return nil, false
	}
	n := uint32(i.Imm)
	if p.size == "word" {
		return []uint32{n}, true
	}
	rd := uint32(i.Rd)
	if signed := int32(n); signed >= -2048 && signed < 2048 {
		return []uint32{n<<20 | rd<<7 | 0x13}, true
	}
	low := uint32(int32(n<<20) >> 20)
	return []uint32{n - low | rd<<7 | 0x37, low<<20 | rd<<15 | rd<<7 | 0x13}, true
}

var labelled = regexp.MustCompile(`^(` + labelPattern + `):[ \t]*([^\n]*)$`)

// secondReading assembles a text that is not too long.
func secondReading(all []pattern, text string) ([]uint32, int, api.Errno) {
	var words []uint32
	type goal struct {
		i        api.Instr
		label    string
		at, line int
	}
	var goals []goal
	places := map[string]int{}
	for n, line := range strings.Split(text, "\n") {
		line = strings.Trim(strings.SplitN(line, "#", 2)[0], " \t")
		label := ""
		if strings.Contains(line, ":") {
			groups := labelled.FindStringSubmatch(line)
			if groups == nil {
				return nil, n + 1, api.ErrSyntax
			}
			label, line = groups[1], groups[2]
		}
		var more []uint32
		if line != "" {
			k := slices.IndexFunc(all, func(p pattern) bool { return p.whole.MatchString(line) })
			if k < 0 {
				return nil, n + 1, api.ErrSyntax
			}
			i, goes := all[k].read(all[k].whole.FindStringSubmatch(line))
			var ok bool
			if more, ok = all[k].wordsOf(i); !ok {
				return nil, n + 1, api.ErrRange
			}
			if goes != "" {
				goals = append(goals, goal{i, goes, len(words), n + 1})
			}
		}
		if label != "" {
			if _, ok := places[label]; ok {
				return nil, n + 1, api.ErrLabel
			}
			places[label] = len(words)
		}
		if words = append(words, more...); len(words) > 4096 {
			return nil, n + 1, api.ErrImage
		}
	}
	for _, g := range goals {
		place, ok := places[g.label]
		if !ok {
			return nil, g.line, api.ErrLabel
		}
		g.i.Imm = 4*place - 4*g.at
		if words[g.at], ok = isa.Encode(g.i); !ok {
			return nil, g.line, api.ErrRange
		}
	}
	return words, 0, api.OK
}

func pick(r *rand.Rand, from ...string) string { return from[r.Intn(len(from))] }

// someOperand is mostly of the same kind as one that fits.
func someOperand(r *rand.Rand, like string) string {
	number := pick(r, "0", "1", "-1", "8", "-8", "31", "32", "2047", "2048", "-2048", "-2049", "4094", "4096", "0x1f", "-0x10", "0xffffffff", "4294967296", "1048575", "3", strconv.Itoa(r.Intn(1<<20)-1<<19))
	register := pick(r, "x0", "x1", "x31", "sp", "fp", "t6", "a7", "s11", "x"+strconv.Itoa(r.Intn(32)))
	kind := kindOf(like)
	if r.Intn(12) == 0 {
		kind = pick(r, "number", "register", "bare", "place", "label", "none")
	}
	switch kind {
	case "number":
		return number
	case "register":
		return register
	case "bare":
		return "(" + register + ")"
	case "place":
		return pick(r, number, "4", "-8", "") + "(" + register + ")"
	case "label":
		return someLabel(r)
	}
	return pick(r, "", "x32", "x01", "?", "0x")
}

func someLabel(r *rand.Rand) string { return pick(r, "a", "b", "c", "_9", "x1") }

func someLine(r *rand.Rand) string {
	line := ""
	if r.Intn(4) == 0 {
		line = pick(r, someLabel(r), "d"+strconv.Itoa(r.Intn(100))) + pick(r, ":", ": ", ":\t", ": ", " :")
	}
	k := known[r.Intn(len(known))]
	name, _, _ := strings.Cut(k.text, " ")
	like := operandsOf[formats[k.i.Op-1]]
	switch r.Intn(8) {
	case 0:
		return line + pick(r, "", "nop", "ret", "ecall", "# nop", "mret")
	case 1:
		return line + k.text
	case 2:
		name, like = pick(r, "li", ".word", "mv", "not", "neg"), []string{"x1", "x1"}
		if name == "li" {
			like[1] = "1"
		} else if name == ".word" {
			like = []string{"1"}
		}
	case 3, 4:
		return line + pick(r, "j", "call", "beqz x1,", "bnez x1,", "bne x1, x2,", "jal x0,") + " " + pick(r, someLabel(r), someLabel(r), "8", "-4")
	}
	var parts []string
	for _, l := range like {
		parts = append(parts, someOperand(r, l))
	}
	if r.Intn(30) == 0 {
		parts = append(parts, someOperand(r, "x1"))
	}
	return line + name + pick(r, " ", "\t", "  ") + strings.Join(parts, pick(r, ",", ", ", " , ", ",\t"))
}

// hurt changes a sign of a text, or leaves one out, or puts one in.
func hurt(r *rand.Rand, text string) string {
	at := r.Intn(len(text) + 1)
	sign := pick(r, " ", "\t", "\n", "#", ":", ",", "(", ")", "-", "0", "x", "9", "_", ".", "a", "Z", "é", "\x00")
	if at == len(text) || r.Intn(3) == 0 {
		return text[:at] + sign + text[at:]
	}
	if r.Intn(2) == 0 {
		return text[:at] + text[at+1:]
	}
	return text[:at] + sign + text[at+1:]
}

// Random texts, fine ones and hurt ones, against the second reading.
func TestSecondReading(t *testing.T) {
	r := rand.New(rand.NewSource(2))
	all := patterns()
	count := map[api.Errno]int{}
	for range 12000 {
		var lines []string
		for range 1 + r.Intn(4) {
			lines = append(lines, someLine(r))
		}
		text := strings.Join(lines, "\n")
		for r.Intn(4) == 0 {
			text = hurt(r, text)
		}
		want, at, wrong := secondReading(all, text)
		words, line, err := asm.Assemble(text)
		if plain.Told(err) != wrong || line != at || !slices.Equal(words, want) {
			t.Fatalf("A2 to A5: Assemble(%q) = %08x, line %d, %v, want %08x, line %d, %v", text, words, line, err, want, at, wrong)
		}
		count[wrong]++
	}
	for _, e := range []api.Errno{api.OK, api.ErrSyntax, api.ErrRange, api.ErrLabel} {
		if count[e] < 500 {
			t.Errorf("only %d texts with %v", count[e], e)
		}
	}
}
