package asm_test

import (
	"slices"
	"testing"

	"oocore/api"
	"oocore/asm"
	"oocore/plain"
)

// shown is a text, cut short where it is long.
func shown(text string) string {
	if len(text) > 60 {
		return text[:60] + ".."
	}
	return text
}

// fine: a text that is assembled to these words.
func fine(t *testing.T, promise, text string, want ...uint32) {
	t.Helper()
	words, line, err := asm.Assemble(text)
	if err != nil || line != 0 || !slices.Equal(words, want) {
		t.Errorf("%s: Assemble(%q) = %08x, line %d, %v, want %08x", promise, shown(text), words, line, err, want)
	}
}

// same: two texts that are assembled to the same words, and to some.
func same(t *testing.T, promise, text, other string) {
	t.Helper()
	want, _, err := asm.Assemble(other)
	if err != nil || len(want) == 0 {
		t.Errorf("%s: Assemble(%q) = %08x, %v", promise, shown(other), want, err)
	}
	fine(t, promise, text, want...)
}

// wrong: a text with a fault in a line.
func wrong(t *testing.T, promise, text string, line int, want api.Errno) {
	t.Helper()
	words, at, err := asm.Assemble(text)
	if plain.Told(err) != want || at != line || len(words) != 0 {
		t.Errorf("%s: Assemble(%q) = %08x, line %d, %v, want line %d, %v", promise, shown(text), words, at, err, line, want)
	}
}

func syntax(t *testing.T, promise string, texts ...string) {
	t.Helper()
	for _, text := range texts {
		wrong(t, promise, text, 1, api.ErrSyntax)
	}
}
