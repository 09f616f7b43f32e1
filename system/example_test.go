package system_test

import (
	"math/rand"
	"testing"

	"oocore/api"
)

// cross is the chapter's first example: a core writes one place, and reads the other.
func cross(own, other, between string) string {
	return "lui x8, 16\nli x1, 1\nsw x1, " + own + "(x8)\n" + between + "lw x3, " + other + "(x8)\nebreak"
}

// Both may read 0; without fences all makes let them, but those that have no room for the load beside the store.
func TestBothReadNothing(t *testing.T) {
	for _, cs := range pairs() {
		x := ends(t, cross("", "32", ""), cross("32", "", ""), cs)
		nothing := x.Regs[0][3]+x.Regs[1][3] == 0
		if want := cs[0].Queue > 1 && cs[1].Queue > 1; want && !nothing {
			t.Errorf("S2: %+v: they read %d and %d", cs, x.Regs[0][3], x.Regs[1][3])
		}
		if x.Data[0] != 1 || x.Data[32] != 1 {
			t.Errorf("S2: %+v: data are %x", cs, x.Data)
		}
	}
}

func TestFencesBetween(t *testing.T) {
	r := rand.New(rand.NewSource(1))
	makes := pairs()
	for range 150 {
		makes = append(makes, anyPair(r))
	}
	for _, cs := range makes {
		x := ends(t, cross("", "32", "fence 255\n"), cross("32", "", "fence 255\n"), cs)
		if x.Regs[0][3]+x.Regs[1][3] == 0 {
			t.Errorf("S2: %+v: behind fences neither reads 1", cs)
		}
	}
}

// Fifteen additions of each core: no two see the same value.
func TestAdditions(t *testing.T) {
	r := rand.New(rand.NewSource(2))
	makes := pairs()
	for range 60 {
		makes = append(makes, anyPair(r))
	}
	text := "lui x8, 16\nli x1, 15\nli x2, 1\na: amoadd.w x3, x2, (x8)\naddi x1, x1, -1\nbnez x1, a\nebreak"
	for _, cs := range makes {
		x := ends(t, text, text, cs)
		seen := map[uint32]int{}
		for _, e := range x.Events {
			if e.Kind == api.EvRetire && e.What.Rd == 3 {
				seen[e.What.Value]++
			}
		}
		if x.Data[0] != 30 || len(seen) != 30 {
			t.Errorf("S2: %+v: the word is %d, %d values were seen", cs, x.Data[0], len(seen))
		}
		for n := range uint32(30) {
			if seen[n] != 1 {
				t.Errorf("S2: %+v: %d was seen %d times", cs, n, seen[n])
			}
		}
	}
}

func TestFlag(t *testing.T) {
	r := rand.New(rand.NewSource(3))
	makes := pairs()
	for range 150 {
		makes = append(makes, anyPair(r))
	}
	for k, cs := range makes {
		write := "lui x8, 16\nli x1, 9\n" + pause(k%7) + "sw x1, 4(x8)\nsw x1, 32(x8)\nebreak"
		wait := "lui x8, 16\n" + pause(k%5) + "a: lw x3, 32(x8)\nbeqz x3, a\nlw x4, 4(x8)\nebreak"
		reg(t, ends(t, write, wait, cs), 1, 4, 9)
		reg(t, ends(t, wait, write, cs), 0, 4, 9)
	}
}

// pause takes some time.
func pause(n int) (s string) {
	for range n {
		s += "mul x20, x20, x20\n"
	}
	return s
}
