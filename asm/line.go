package asm

import (
	"strings"

	"oocore/api"
)

const (
	blanks    = " \t"
	wordBytes = 4
)

// assembler reads a text line by line; labels have the number of the word that comes next.
type assembler struct {
	vocabulary
	shorts  map[string]short
	labels  map[string]int
	line    int
	words   []uint32
	waiting []wait
}

// wait is an instruction, the word at which it stands, its line, and the label that it waits for.
type wait struct {
	instr    api.Instr
	at, line int
	label    string
}

func newAssembler() *assembler {
	v := newVocabulary()
	return &assembler{vocabulary: v, shorts: v.shortForms(), labels: map[string]int{}}
}

// read throws what is wrong with a line, in the order in which it is to be told: the syntax, then numbers, the label, the room.
func (a *assembler) read(text string) {
	a.line++
	label, rest := cutLabel(withoutRemark(text))
	s := a.statement(rest)
	if label != "" {
		a.define(label)
	}
	a.put(s)
}

func withoutRemark(text string) string {
	text, _, _ = strings.Cut(text, "#")
	return strings.Trim(text, blanks)
}

// cutLabel gives "" as the label of a line that has none.
func cutLabel(text string) (string, string) {
	label, rest, ok := strings.Cut(text, ":")
	if !ok {
		return "", text
	}
	if !isLabel(label) {
		panic(api.ErrSyntax)
	}
	return label, strings.Trim(rest, blanks)
}

func (a *assembler) statement(text string) statement {
	if text == "" {
		return statement{}
	}
	name, parts := cutName(text)
	if form, ok := a.shorts[name]; ok {
		return form(parts)
	}
	o, ok := a.openings[name]
	if !ok {
		panic(api.ErrSyntax)
	}
	return single(a.fill(o.instr, parts, o.slots...))
}

// cutName leaves empty parts to be refused as operands: they are none of any kind.
func cutName(text string) (string, []string) {
	end := strings.IndexAny(text, blanks)
	if end < 0 {
		return text, nil
	}
	parts := strings.Split(text[end:], ",")
	for k := range parts {
		parts[k] = strings.Trim(parts[k], blanks)
	}
	return text[:end], parts
}

func (a *assembler) define(label string) {
	if _, ok := a.labels[label]; ok {
		panic(api.ErrLabel)
	}
	a.labels[label] = len(a.words)
}

func (a *assembler) put(s statement) {
	if len(a.words)+len(s.words) > api.MaxCode {
		panic(api.ErrImage)
	}
	if s.label != "" {
		a.waiting = append(a.waiting, wait{s.instr, len(a.words), a.line, s.label})
	}
	a.words = append(a.words, s.words...)
}

// link goes back to the line of each target that is a label, now that all labels are known.
func (a *assembler) link() {
	for _, w := range a.waiting {
		a.line = w.line
		place, ok := a.labels[w.label]
		if !ok {
			panic(api.ErrLabel)
		}
		w.instr.Imm = (place - w.at) * wordBytes
		a.words[w.at] = encode(w.instr)[0]
	}
}
