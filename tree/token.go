package tree

import (
	"strings"
	"unicode"
)

// kind of a token.
type kind int

const (
	noToken kind = iota // it can stand nowhere
	endOfText
	aName
	aNumber
	asItIs // a word or a sign
)

const (
	words     = " var func let if else while return print "
	pairSigns = " || && == != <= >= << >> "
	signs     = "|^&<>+-*/%!~()[]{},;="
)

// token of a text; a text of one kind is none of another.
type token struct {
	kind kind
	text string
	line int
}

// scanner goes through the letters of a text.
type scanner struct {
	letters []rune
	next    int
	line    int
	tokens  []token
}

// scan cuts a text into tokens; the last one is its end.
func scan(text string) []token {
	s := scanner{letters: []rune(text), line: 1}
	for s.skipBlanks(); s.next < len(s.letters); s.skipBlanks() {
		s.scanOne()
	}
	s.take(endOfText, 0)
	return s.tokens
}

// letter is 0, which no token has, behind the end.
func (s *scanner) letter(ahead int) rune {
	if s.next+ahead >= len(s.letters) {
		return 0
	}
	return s.letters[s.next+ahead]
}

func (s *scanner) skipBlanks() {
	for s.next < len(s.letters) {
		switch c := s.letter(0); {
		case c == '\n':
			s.line++
			s.next++
		case c == ' ' || c == '\t':
			s.next++
		case c == '/' && s.letter(1) == '/':
			remark := s.run(func(c rune) bool { return c != '\n' })
			s.next += remark
		default:
			return
		}
	}
}

// run counts the letters of a kind that come next.
func (s *scanner) run(is func(rune) bool) int {
	n := 0
	for s.next+n < len(s.letters) && is(s.letters[s.next+n]) {
		n++
	}
	return n
}

func (s *scanner) take(k kind, letters int) {
	text := string(s.letters[s.next : s.next+letters])
	s.tokens = append(s.tokens, token{k, text, s.line})
	s.next += letters
}

func (s *scanner) scanOne() {
	switch c := s.letter(0); {
	case isDigit(c):
		s.scanNumber()
	case isOfName(c):
		s.scanName()
	case isAmong(pairSigns, string([]rune{c, s.letter(1)})):
		s.take(asItIs, 2)
	case strings.ContainsRune(signs, c):
		s.take(asItIs, 1)
	default:
		s.take(noToken, 1)
	}
}

func (s *scanner) scanName() {
	n := s.run(isOfName)
	if isAmong(words, string(s.letters[s.next:s.next+n])) {
		s.take(asItIs, n)
		return
	}
	s.take(aName, n)
}

// scanNumber takes the letters behind the digits with them, of whatever alphabet: together they are no token.
func (s *scanner) scanNumber() {
	digits := s.run(isDigit)
	all := s.run(func(c rune) bool { return isOfName(c) || unicode.IsLetter(c) })
	if all > digits {
		s.take(noToken, all)
		return
	}
	s.take(aNumber, digits)
}

func isDigit(c rune) bool { return '0' <= c && c <= '9' }

func isOfName(c rune) bool { return 'a' <= c && c <= 'z' || c == '_' || isDigit(c) }

// isAmong: does a text without blanks stand in a list that has a blank ahead of each, and behind?
func isAmong(list, text string) bool { return strings.Contains(list, " "+text+" ") }
