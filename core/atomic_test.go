package core_test

import (
	"testing"

	"oocore/api"
)

// The operation waits until the store is written, and asks for its line then; the load behind it, which went ahead, is thrown away, since the operation writes its line.
func TestAtomicWaits(t *testing.T) {
	x := ends(t, "lui x8, 16\nli x1, 5\nsw x1, (x8)\namoadd.w x2, x1, (x8)\nlw x3, (x8)\nebreak", plainly())
	shows(t, x,
		"Enter 0: 0, Enter 1: 4",
		"Issue 0, Issue 1, Enter 2: 8, Enter 3: c",
		"Done 0, Done 1, Retire 0, Retire 1, Issue 2, Enter 4: 10, Enter 5: 14",
		"Done 2, Retire 2, Issue 4, Enter 6: 18",
		"Done 4",
		"Drain",
		"Issue 3, Done 3, Retire 3, Squash 6, Squash 5, Squash 4, Enter 7: 10, Enter 8: 14",
		"Issue 7, Done 7, Retire 7, Issue 8, Done 8, Retire 8")
	reg(t, x, 2, 5)
	reg(t, x, 3, 10)
}

func TestAtomicWaitsForItsLine(t *testing.T) {
	x := ends(t, "lui x8, 16\namoor.w x2, x8, (x8)\nadd x3, x2, x8\nebreak", plainly())
	shows(t, x,
		"Enter 0: 0, Enter 1: 4",
		"Issue 0, Enter 2: 8, Enter 3: c",
		"Done 0, Retire 0, Enter 4: 10",
		"",
		"Issue 1, Done 1, Retire 1, Issue 2",
		"Done 2, Retire 2, Issue 3, Done 3, Retire 3, Squash 4")
	reg(t, x, 3, 0x10000)
	if x.Data[2] != 1 {
		t.Errorf("C3: data are %x", x.Data[:4])
	}
}

// Loads of other lines, and lr.w and sc.w that write nothing, throw nothing away.
func TestAtomicThrowsNoOthers(t *testing.T) {
	for _, c := range []struct {
		text string
		want int
	}{
		{"amoadd.w x2, x8, (x8)\nlw x3, 16(x8)\nlw x4, 12(x8)", 1},
		{"amoadd.w x2, x8, (x8)\nlw x3, 16(x8)\nlw x4, 32(x8)", 0},
		{"lr.w x2, (x8)\nlw x3, 16(x8)\nlw x4, 12(x8)", 0},
		{"sc.w x2, x8, (x8)\nlw x3, 16(x8)\nlw x4, 12(x8)", 0},
		{"amoadd.w x2, x8, (x8)\namoadd.w x0, x8, (x8)\nlw x3, 32(x8)\nlw x4, 15(x0)", 0},
	} {
		made := greatest()
		made.BusCycles, made.Width = 1, 1
		x := ends(t, "lui x8, 16\nlw x9, (x8)\nlw x9, 16(x8)\nlw x9, 32(x8)\ndiv x5, x8, x8\n"+c.text+"\nebreak", made)
		again := 0
		for pc := uint32(20); pc < 32; pc += 4 {
			again += len(when(x, api.EvEnter, pc)) - 1
		}
		if again != c.want {
			t.Errorf("C4: %q: %d are taken in again, want %d", c.text, again, c.want)
		}
	}
}

func TestReservations(t *testing.T) {
	for _, c := range []struct {
		text  string
		holds uint32
		x6    uint32
	}{
		{"sc.w x5, x1, (x8)", 1, 0},
		{"lr.w x4, (x8)\nsc.w x5, x1, (x8)", 0, 9},
		{"lr.w x4, (x8)\nsc.w x5, x1, (x9)", 1, 0},
		{"lr.w x4, (x9)\nlr.w x4, (x8)\nsc.w x5, x1, (x8)", 0, 9},
		{"lr.w x4, (x8)\nsc.w x4, x0, (x8)\nsc.w x5, x1, (x8)", 1, 0},
		{"lr.w x4, (x8)\nsc.w x4, x0, (x9)\nsc.w x5, x1, (x8)", 1, 0},
		{"lr.w x4, (x8)\nsw x1, (x8)\nsc.w x5, x0, (x8)", 0, 0},
		{"lr.w x4, (x8)\namoadd.w x4, x1, (x8)\nsc.w x5, x0, (x8)", 0, 0},
	} {
		for _, made := range []api.Config{least(), plainly(), greatest()} {
			x := ends(t, "lui x8, 16\naddi x9, x8, 4\nli x1, 9\n"+c.text+"\nlw x6, (x8)\nebreak", made)
			reg(t, x, 5, c.holds)
			reg(t, x, 6, c.x6)
		}
	}
}

// All that change a word, one behind the other, with loads between.
func TestAtomicOperations(t *testing.T) {
	text := "lui x8, 16\nli x1, 6\nsw x1, (x8)\namoadd.w x2, x1, (x8)\nlw x10, (x8)\namoxor.w x3, x1, (x8)\nlw x11, (x8)\namoand.w x4, x1, (x8)\nlw x12, (x8)\namoor.w x5, x8, (x8)\nlw x13, (x8)\nli x1, -1\namomin.w x6, x1, (x8)\nlw x14, (x8)\namomaxu.w x7, x0, (x8)\nlw x15, (x8)\namoswap.w x9, x8, (x8)\nlw x16, (x8)\nebreak"
	for _, c := range []api.Config{least(), plainly(), greatest()} {
		x := ends(t, text, c)
		for n, want := range map[int]uint32{2: 6, 10: 12, 3: 12, 11: 10, 4: 10, 12: 2, 5: 2, 13: 0x10002, 6: 0x10002, 14: 0xffffffff, 7: 0xffffffff, 15: 0xffffffff, 9: 0xffffffff, 16: 0x10000} {
			reg(t, x, n, want)
		}
	}
}

func TestFenceWaits(t *testing.T) {
	x := ends(t, "lui x8, 16\nsw x8, (x8)\nsw x8, 16(x8)\nfence 255\nebreak", plainly())
	shows(t, x,
		"Enter 0: 0, Enter 1: 4",
		"Issue 0, Enter 2: 8, Enter 3: c",
		"Done 0, Retire 0, Issue 1, Issue 2, Enter 4: 10, Enter 5: 14",
		"Done 1, Done 2, Retire 1, Retire 2",
		"", "Drain", "", "", "Drain",
		"Issue 3, Done 3, Retire 3, Issue 4, Done 4, Retire 4, Squash 5")
	x = ends(t, "lui x8, 16\nfence 0\nebreak", plainly())
	if got := when(x, api.EvRetire, 4); len(got) != 1 || got[0] != 2 {
		t.Errorf("C4: a fence without stores retires in %d, want 2", got)
	}
}

// A trap, and any other operation of the class System, does not wait for stores.
func TestSystemDoesNotWait(t *testing.T) {
	for _, line := range []string{"csrrw x1, 0x340, x8", "wfi", "csrrsi x1, 0x300, 8", "amoadd.w x1, x1, (x0)", ".word 0", "ecall"} {
		c := plainly()
		c.BusCycles = 10
		x := ends(t, "lui x8, 16\nsw x8, (x8)\n"+line+"\nebreak", c)
		if got, drained := when(x, api.EvRetire, 8), when(x, api.EvDrain, 0); len(got) != 1 || got[0] != 3 || drained[0] != 14 {
			t.Errorf("C4: %s retires in %d, the store is written in %d", line, got, drained)
		}
	}
}

// What a control or an atomic operation writes is there for all behind it.
func TestValuesAreRead(t *testing.T) {
	for _, c := range []api.Config{least(), plainly(), greatest()} {
		x := ends(t, "lui x8, 16\ncsrrwi x0, 0x340, 21\ncsrrs x2, 0x340, x0\nadd x3, x2, x2\nmul x4, x3, x2\nsw x4, (x8)\namoadd.w x5, x2, (x8)\nadd x6, x5, x2\nsc.w x7, x2, (x8)\naddi x7, x7, 4\nebreak", c)
		for n, want := range map[int]uint32{2: 21, 3: 42, 4: 882, 5: 882, 6: 903, 7: 5} {
			reg(t, x, n, want)
		}
	}
}
