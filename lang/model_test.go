package lang_test

import (
	"regexp"
	"slices"
	"strconv"
	"strings"

	"oocore/api"
)

// A second reading of the chapter: tokens by a pattern, the syntax by a stack of what is still to come, all else by the ranges of tokens in the text, without a tree.

type piece struct {
	kind string // "name", "number", "none", "end", or the text of a word or a sign
	text string
	line int
}

type mistake struct {
	line int
	err  api.Errno
}

type reading struct {
	pieces   []piece
	partners []int // of brackets of all kinds
	declared []declared
	locals   map[int]int // of the func that begins there
}

// declared is a declaration: where it begins, its name, its kind, its words or its parameters.
type declared struct {
	begin      int
	name, kind string
	size       int
	first      int
	parameters []string
	block      int
}

var fixedPattern = regexp.MustCompile(`^(var|func|let|if|else|while|return|print|[|^&<>+*/%!~()[\]{},;=-]+)$`)

var piecePattern = regexp.MustCompile(`(?s)^(?:[ \t\n]+|//[^\n]*|[a-z_][a-z0-9_]*|[0-9][0-9_\p{L}]*|\|\||&&|==|!=|<=|>=|<<|>>|.)`)

func piecesOf(text string) []piece {
	var list []piece
	line := 1
	for rest := text; rest != ""; {
		s := piecePattern.FindString(rest)
		rest = rest[len(s):]
		switch {
		case strings.TrimLeft(s, " \t\n") == "" || strings.HasPrefix(s, "//"):
		case fixedPattern.MatchString(s):
			list = append(list, piece{s, s, line})
		case s[0] == '_' || 'a' <= s[0] && s[0] <= 'z':
			list = append(list, piece{"name", s, line})
		case strings.Trim(s, "0123456789") == "":
			list = append(list, piece{"number", s, line})
		default:
			list = append(list, piece{"none", s, line})
		}
		line += strings.Count(s, "\n")
	}
	return append(list, piece{"end", "", line})
}

// isAmong tells whether a piece is of one of the kinds.
func isAmong(p piece, kinds string) bool {
	return strings.Contains(" "+kinds+" ", " "+p.kind+" ")
}

// rules tells what must come for what is to come, as the next piece has it; nil: the piece cannot stand there.
func rules(symbol string, p piece) []string {
	is := func(kinds string) bool { return isAmong(p, kinds) }
	of := func(s string) []string { return strings.Fields(s) }
	switch symbol {
	case "PROGRAM":
		if is("end") {
			return of("end")
		} else if is("var") {
			return of("var name SIZED ; PROGRAM")
		} else if is("func") {
			return of("func name ( PARAMETERS BLOCK PROGRAM")
		}
	case "SIZED":
		if is("[") {
			return of("[ size ]")
		}
		return []string{}
	case "PARAMETERS":
		if is(")") {
			return of(")")
		}
		return of("p1 name MORE1")
	case "BLOCK":
		return of("deeper { STATEMENTS } back")
	case "STATEMENTS":
		if is("}") {
			return []string{}
		}
		return of("STATEMENT STATEMENTS")
	case "STATEMENT":
		switch {
		case is("let"):
			return of("let name = EXPR ;")
		case is("if"):
			return of("if EXPR BLOCK ELSE")
		case is("while"):
			return of("while EXPR BLOCK")
		case is("return print"):
			return []string{p.kind, "EXPR", ";"}
		case is("name"):
			return of("name NAMED")
		}
	case "ELSE":
		if is("else") {
			return of("else BLOCK")
		}
		return []string{}
	case "NAMED":
		if is("=") {
			return of("= EXPR ;")
		} else if is("[") {
			return of("[ EXPR ] = EXPR ;")
		} else if is("(") {
			return of("( ARGUMENTS ;")
		}
	case "ARGUMENTS":
		if is(")") {
			return of(")")
		}
		return of("EXPR ANDMORE")
	case "ANDMORE":
		if is(",") {
			return of(", EXPR ANDMORE")
		}
		return of(")")
	case "EXPR":
		return of("deeper OPERAND OPERATIONS back")
	case "OPERATIONS":
		if is(pairs) {
			return []string{p.kind, "OPERAND", "OPERATIONS"}
		}
		return []string{}
	case "OPERAND":
		switch {
		case is("- ! ~"):
			return []string{"deeper", p.kind, "OPERAND", "back"}
		case is("number"):
			return of("number")
		case is("name"):
			return of("name BEHIND")
		case is("("):
			return of("( EXPR )")
		}
	case "BEHIND":
		if is("[") {
			return of("[ EXPR ]")
		} else if is("(") {
			return of("( ARGUMENTS")
		}
		return []string{}
	}
	if n, ok := strings.CutPrefix(symbol, "MORE"); ok {
		if is(",") {
			k, _ := strconv.Atoi(n)
			return []string{",", "p" + strconv.Itoa(k+1), "name", "MORE" + strconv.Itoa(k+1)}
		}
		return of(")")
	}
	return nil
}

// syntax is the promise L3.
func (m *reading) syntax() {
	stack, level := []string{"PROGRAM"}, 0
	for k := 0; len(stack) > 0; {
		symbol, p := stack[len(stack)-1], m.pieces[k]
		stack = stack[:len(stack)-1]
		switch {
		case symbol == "deeper":
			if level++; level == 25 {
				panic(mistake{p.line, api.ErrRange})
			}
		case symbol == "back":
			level--
		case symbol[0] == 'p' && len(symbol) == 2:
			if symbol == "p7" && p.kind == "name" {
				panic(mistake{p.line, api.ErrRange})
			}
		case strings.ToUpper(symbol) == symbol && symbol[0] >= 'A' && symbol[0] <= 'Z':
			next := rules(symbol, p)
			if next == nil {
				panic(mistake{p.line, api.ErrSyntax})
			}
			for _, s := range slices.Backward(next) {
				stack = append(stack, s)
			}
		default:
			terminal(symbol, p)
			k++
		}
	}
}

func terminal(symbol string, p piece) {
	if symbol != p.kind && !(symbol == "size" && p.kind == "number") {
		panic(mistake{p.line, api.ErrSyntax})
	}
	n, err := strconv.ParseUint(p.text, 10, 32)
	if symbol == "number" && err != nil || symbol == "size" && (err != nil || n < 1 || n > 256) || symbol == "name" && len(p.text) > 16 {
		panic(mistake{p.line, api.ErrRange})
	}
}

// modelCheck is Check, and the reading that was made, if there is no fault.
func modelCheck(text string) (m *reading, wrong mistake) {
	if len(text) > 8000 {
		return nil, mistake{0, api.ErrImage}
	}
	defer func() {
		if thrown := recover(); thrown != nil {
			m, wrong = nil, thrown.(mistake)
		}
	}()
	m = &reading{pieces: piecesOf(text), locals: map[int]int{}}
	m.syntax()
	m.pair()
	m.declarations()
	m.namesOfAll()
	return m, mistake{}
}

func (m *reading) pair() {
	m.partners = make([]int, len(m.pieces))
	var open []int
	for k, p := range m.pieces {
		if isAmong(p, "( [ {") {
			open = append(open, k)
		} else if isAmong(p, ") ] }") {
			last := open[len(open)-1]
			m.partners[last], m.partners[k] = k, last
			open = open[:len(open)-1]
		}
	}
}

func (m *reading) number(k int) uint32 {
	n, _ := strconv.ParseUint(m.pieces[k].text, 10, 32)
	return uint32(n)
}

func (m *reading) kind(k int) string { return m.pieces[k].kind }

func (m *reading) declarations() {
	words := 0
	for k := 0; m.kind(k) != "end"; {
		d := declared{begin: k, name: m.pieces[k+1].text, kind: m.kind(k), size: 1, first: words}
		switch {
		case d.kind == "func":
			for j := k + 3; j < m.partners[k+2]; j += 2 {
				d.parameters = append(d.parameters, m.pieces[j].text)
			}
			d.block = m.partners[k+2] + 1
			k = m.partners[d.block] + 1
			d.size = 0
		case m.kind(k+2) == "[":
			d.kind, d.size = "array", int(m.number(k+3))
			k += 6
		default:
			k += 3
		}
		words += d.size
		m.declared = append(m.declared, d)
	}
}

// find tells the first declaration of a name.
func (m *reading) find(name string) (declared, bool) {
	for _, d := range m.declared {
		if d.name == name {
			return d, true
		}
	}
	return declared{}, false
}

// behind is the first piece of a kind from k on.
func (m *reading) behind(k int, kind string) int {
	for m.kind(k) != kind {
		k++
	}
	return k
}

// span is a range of pieces.
type span struct{ from, to int }

// arguments of the call at k.
func (m *reading) arguments(k int) []span {
	var list []span
	end := m.partners[k+1]
	for from := k + 2; from < end; {
		to := from
		for to < end && m.kind(to) != "," {
			if isAmong(m.pieces[to], "( [") {
				to = m.partners[to]
			}
			to++
		}
		list = append(list, span{from, to})
		from = to + 1
	}
	return list
}

// weakest finds the operation of two that is done last; -1: there is none.
func (m *reading) weakest(s span) int {
	rows := []string{"||", "&&", "|", "^", "&", "== !=", "< <= > >=", "<< >>", "+ -", "* / %"}
	found, strength := -1, len(rows)
	operand := false // has one come, so that a sign is of two
	for k := s.from; k < s.to; k++ {
		switch {
		case isAmong(m.pieces[k], "( ["):
			k = m.partners[k]
			operand = true
		case isAmong(m.pieces[k], "name number"):
			operand = true
		case operand:
			for n, row := range rows {
				if isAmong(m.pieces[k], row) && n <= strength {
					found, strength = k, n
				}
			}
			operand = false
		}
	}
	return found
}

// head is the piece that says what an expression is, without brackets around it.
func (m *reading) head(s span) (int, span) {
	if k := m.weakest(s); k >= 0 {
		return k, s
	}
	if m.kind(s.from) == "(" {
		return m.head(span{s.from + 1, s.to - 1})
	}
	return s.from, s
}

func (m *reading) needs(s span) int {
	k, s := m.head(s)
	switch {
	case k > s.from: // of two
		first, second := m.needs(span{s.from, k}), m.needs(span{k + 1, s.to})
		if !isAmong(m.pieces[k], "&& ||") {
			second++
		}
		return max(first, second)
	case isAmong(m.pieces[k], "- ! ~"):
		return m.needs(span{k + 1, s.to})
	case s.to-s.from == 1:
		return 1
	case m.kind(k+1) == "[":
		return m.needs(span{k + 2, s.to - 1})
	}
	most := 1
	for n, a := range m.arguments(k) {
		most = max(most, m.needs(a)+n)
	}
	return most
}
