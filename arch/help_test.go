package arch_test

import (
	"testing"

	"oocore/api"
	"oocore/arch"
	"oocore/asm"
)

func assemble(t *testing.T, text string) []uint32 {
	t.Helper()
	words, line, err := asm.Assemble(text)
	if err != nil {
		t.Fatalf("line %d: %v", line, err)
	}
	return words
}

func hart(t *testing.T, text string, data, number int) *arch.Hart {
	t.Helper()
	h, err := arch.NewHart(assemble(t, text), data, number)
	if err != nil {
		t.Fatalf("H1: NewHart: %v", err)
	}
	return h
}

func machine(t *testing.T, text string, data []byte) *arch.Machine {
	t.Helper()
	m, err := arch.New(assemble(t, text), data)
	if err != nil {
		t.Fatalf("H7: New: %v", err)
	}
	return m
}

// do does n instructions of a hart that need nothing of memory, and answers the last.
func do(h *arch.Hart, n int) (r api.Retired) {
	for range n {
		r = h.Do(0, false)
	}
	return r
}

// finish lets a machine run to its end.
func finish(t *testing.T, m *arch.Machine) (all []api.Retired) {
	t.Helper()
	for range 1000 {
		r, ok := m.Step()
		if !ok {
			return all
		}
		all = append(all, r)
	}
	t.Fatal("H7: the machine does not halt")
	return nil
}

func csr(t *testing.T, h *arch.Hart, n int) uint32 {
	t.Helper()
	v, ok := h.Csr(n)
	if !ok {
		t.Errorf("H2: there is no control register %x", n)
	}
	return v
}
