package system_test

import (
	"fmt"
	"math/rand"
	"testing"

	"oocore/api"
)

// keeper reserves the first word, lets the other core know, waits for it, and stores: x7 is 0, if that held.
const keeper = "lui x8, 16\nlr.w x3, (x8)\nli x4, 1\nsw x4, 32(x8)\na: lw x5, 48(x8)\nbeqz x5, a\nli x6, 77\nsc.w x7, x6, (x8)\nebreak"

// taker waits for the keeper, does something, and lets it know.
func taker(what string) string {
	return "lui x8, 16\nlui x9, 32\naddi x10, x8, 4\nli x1, 1\na: lw x4, 32(x8)\nbeqz x4, a\n" + what + "\nfence 255\nsw x1, 48(x8)\nebreak"
}

// A conditional store fails just if the other core has written a byte of its word.
func TestReservedWord(t *testing.T) {
	r := rand.New(rand.NewSource(6))
	for _, c := range []struct {
		what string
		x7   uint32
	}{
		{"sw x1, (x8)", 1}, {"sw x0, (x8)", 1}, {"sh x1, (x8)", 1}, {"sh x1, 2(x8)", 1},
		{"sb x1, (x8)", 1}, {"sb x1, 1(x8)", 1}, {"sb x1, 2(x8)", 1}, {"sb x1, 3(x8)", 1},
		{"amoadd.w x2, x1, (x8)", 1}, {"amoadd.w x2, x0, (x8)", 1}, {"amoor.w x2, x0, (x8)", 1}, {"amoswap.w x2, x0, (x8)", 1}, {"amomax.w x2, x0, (x8)", 1},
		{"lr.w x2, (x8)\nsc.w x2, x1, (x8)", 1},
		{"sw x1, 4(x8)", 0}, {"sb x1, 4(x8)", 0}, {"sw x1, 12(x8)", 0}, {"sw x1, 16(x8)", 0}, {"amoadd.w x2, x1, (x10)", 0}, {"sb x1, (x9)", 0},
		{"lw x2, (x8)", 0}, {"lr.w x2, (x8)", 0}, {"sc.w x2, x1, (x8)", 0}, {"lr.w x2, (x10)\nsc.w x2, x1, (x10)", 0}, {"lr.w x2, (x8)\nsc.w x2, x1, (x10)", 0},
	} {
		makes := pairs()
		for range 10 {
			makes = append(makes, anyPair(r))
		}
		for _, cs := range makes {
			x := ends(t, keeper, taker(c.what), cs)
			reg(t, x, 0, 7, c.x7)
			x = ends(t, taker(c.what), keeper, cs)
			if reg(t, x, 1, 7, c.x7); t.Failed() {
				t.Fatalf("S2: behind %q of the other core, on %+v", c.what, cs)
			}
			if held := x.Data[0] == 77; held != (c.x7 == 0) {
				t.Errorf("S2: behind %q: x7 is %d, data are %x", c.what, c.x7, x.Data[:4])
			}
		}
	}
}

// The reservation is a word's, wherever in its line that stands.
func TestReservedPlaces(t *testing.T) {
	for own := 0; own < 32; own += 4 {
		for other := range 32 {
			keep := fmt.Sprintf("lui x8, 16\naddi x9, x8, %d\nlr.w x3, (x9)\nli x4, 1\nsw x4, 32(x8)\na: lw x5, 48(x8)\nbeqz x5, a\nsc.w x7, x4, (x9)\nebreak", own)
			x := ends(t, keep, taker(fmt.Sprintf("sb x1, %d(x8)", other)), []api.Config{plainly(), greatest()})
			want := uint32(0)
			if other/4 == own/4 {
				want = 1
			}
			reg(t, x, 0, 7, want)
		}
	}
}

// A word that was written is free to be reserved anew; what was written ahead of lr.w does not count.
func TestReservedAnew(t *testing.T) {
	again := "lui x8, 16\nlr.w x3, (x8)\nli x4, 1\nsw x4, 32(x8)\na: lw x5, 48(x8)\nbeqz x5, a\nlr.w x3, (x8)\nsc.w x7, x4, (x8)\nsc.w x6, x4, (x8)\nebreak"
	for _, cs := range pairs() {
		x := ends(t, again, taker("sw x1, (x8)"), cs)
		reg(t, x, 0, 3, 1)
		reg(t, x, 0, 7, 0)
		reg(t, x, 0, 6, 1)
	}
}

// What a core stores itself does not break its reservation, though the other core has had the line in between.
func TestOwnStores(t *testing.T) {
	text := "lui x8, 16\nlr.w x3, (x8)\nli x4, 1\nsb x4, 1(x8)\nsw x4, 32(x8)\na: lw x5, 48(x8)\nbeqz x5, a\nsw x4, (x8)\namoadd.w x2, x4, (x8)\nsc.w x7, x0, (x8)\nebreak"
	for _, cs := range pairs() {
		x := ends(t, text, taker("lw x2, (x8)\nsw x1, 8(x8)"), cs)
		reg(t, x, 0, 7, 0)
		reg(t, x, 1, 2, 0x100)
	}
}

// Both reserve one word: the first conditional store holds, and breaks the other's.
func TestBothReserve(t *testing.T) {
	r := rand.New(rand.NewSource(7))
	text := "lui x8, 16\nli x4, 1\nlr.w x3, (x8)\naddi x9, x8, 64\namoadd.w x5, x4, (x9)\na: lw x5, 64(x8)\naddi x5, x5, -2\nbnez x5, a\nsc.w x7, x4, (x8)\nebreak"
	for range 60 {
		cs := anyPair(r)
		x := ends(t, text, text, cs)
		if x.Regs[0][7]+x.Regs[1][7] != 1 {
			t.Fatalf("S2: %+v: of two conditional stores %d fail", cs, x.Regs[0][7]+x.Regs[1][7])
		}
	}
}

// Additions by lr.w and sc.w, and under a lock.
func TestAdditionsByConditionalStores(t *testing.T) {
	r := rand.New(rand.NewSource(8))
	add := "lui x8, 16\nli x1, 12\na: lr.w x3, (x8)\naddi x3, x3, 1\nsc.w x4, x3, (x8)\nbnez x4, a\naddi x1, x1, -1\nbnez x1, a\nebreak"
	lock := "lui x8, 16\nli x1, 4\nli x2, 1\na: lr.w x3, (x8)\nbnez x3, a\nsc.w x3, x2, (x8)\nbnez x3, a\nlw x4, 32(x8)\naddi x4, x4, 1\nsw x4, 32(x8)\nsw x0, (x8)\naddi x1, x1, -1\nbnez x1, a\nebreak"
	for range 40 {
		cs := anyPair(r)
		if x := ends(t, add, add, cs); x.Data[0] != 24 {
			t.Errorf("S2: %+v: 24 additions come to %d", cs, x.Data[0])
		}
		if x := ends(t, lock, lock, cs); x.Data[32] != 8 || x.Data[0] != 0 {
			t.Errorf("S2: %+v: under a lock 8 additions come to %d", cs, x.Data[32])
		}
	}
}
