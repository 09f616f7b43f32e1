package core_test

import (
	"testing"

	"oocore/api"
)

// A jump that is guessed wrongly: what was taken in behind it is thrown away, though some of it was computed.
func TestJumpGuessedWrongly(t *testing.T) {
	x := ends(t, "auipc x5, 0\njalr x6, 16(x5)\nli x1, 1\nli x1, 2\nebreak", plainly())
	shows(t, x,
		"Enter 0: 0, Enter 1: 4",
		"Issue 0, Enter 2: 8, Enter 3: c",
		"Done 0, Retire 0, Issue 1, Issue 2, Enter 4: 10, Enter 5: 14",
		"Done 1, Squash 5, Squash 4, Squash 3, Squash 2, Retire 1, Enter 6: 10, Enter 7: 14",
		"Issue 6, Done 6, Retire 6, Squash 7")
	reg(t, x, 1, 0)
	reg(t, x, 6, 8)
}

// A branch that is guessed to be taken, and is not.
func TestBranchGuessedTaken(t *testing.T) {
	c := plainly()
	c.Guess.Kind = 1
	x := ends(t, "j 8\nebreak\nbne x0, x0, -4\nli x1, 1\nebreak", c)
	shows(t, x,
		"Enter 0: 0, Enter 1: 8",
		"Issue 0, Issue 1, Enter 2: 4, Enter 3: 8",
		"Done 0, Done 1, Squash 3, Squash 2, Retire 0, Retire 1, Enter 4: c, Enter 5: 10",
		"Issue 4, Enter 6: 14",
		"Done 4, Retire 4, Issue 5, Done 5, Retire 5, Squash 6")
	reg(t, x, 1, 1)
}

// Of two branches that are guessed wrongly in one cycle the older one counts; the other one is not even done.
func TestTwoGuessedWrongly(t *testing.T) {
	x := ends(t, "beq x0, x0, 16\nbeq x0, x0, 8\nebreak\nli x1, 1\nli x2, 2\nebreak", plainly())
	shows(t, x,
		"Enter 0: 0, Enter 1: 4",
		"Issue 0, Issue 1, Enter 2: 8, Enter 3: c",
		"Done 0, Squash 3, Squash 2, Squash 1, Retire 0, Enter 4: 10, Enter 5: 14",
		"Issue 4, Enter 6: 18",
		"Done 4, Retire 4, Issue 5, Done 5, Retire 5, Squash 6")
	reg(t, x, 1, 0)
	reg(t, x, 2, 2)
}

// A branch that goes to the next word, taken or not, goes where was guessed.
func TestTakenToTheNextWord(t *testing.T) {
	x := ends(t, "beq x0, x0, 4\nnop\nebreak", plainly())
	if n := count(x, api.EvSquash); n != 1 {
		t.Errorf("C4: %d are thrown away", n)
	}
}

// A branch that goes to where there is no code, or to no multiple of 4.
func TestWrongPlaces(t *testing.T) {
	x := ends(t, "beq x0, x0, 400\nnop\nnop", plainly())
	shows(t, x,
		"Enter 0: 0, Enter 1: 4",
		"Issue 0, Issue 1, Enter 2: 8, Enter 3: c",
		"Done 0, Squash 3, Squash 2, Squash 1, Retire 0, Enter 4: 190",
		"Issue 4, Done 4, Retire 4")
	x = ends(t, "jal x1, 6\nnop\nnop\nnop", plainly())
	shows(t, x,
		"Enter 0: 0, Enter 1: 6",
		"Issue 0",
		"Done 0, Retire 0, Squash 1")
	reg(t, x, 1, 0)
	// Guessed not to be taken, it traps: nothing is taken in from where it goes.
	x = ends(t, "beq x0, x0, 6\nnop\nnop\nnop", plainly())
	shows(t, x,
		"Enter 0: 0, Enter 1: 4",
		"Issue 0, Issue 1, Enter 2: 8, Enter 3: c",
		"Done 0, Done 1, Retire 0, Squash 3, Squash 2, Squash 1")
	if got := causes(x); len(got) != 1 || got[0] != api.FetchAligned {
		t.Errorf("C3: traps %x", got)
	}
}

// thrown counts those that are thrown away in a program of 50 rounds.
func thrown(t *testing.T, text string, g api.Guessing) int {
	t.Helper()
	c := plainly()
	c.Guess = g
	x := ends(t, text, c)
	reg(t, x, 2, 50)
	return count(x, api.EvSquash)
}

func TestLoops(t *testing.T) {
	loop := "li x1, 50\na: addi x2, x2, 1\naddi x1, x1, -1\nbnez x1, a\nebreak"
	never := thrown(t, loop, api.Guessing{Kind: 0, Bits: 4, Returns: 1})
	back := thrown(t, loop, api.Guessing{Kind: 1, Bits: 4, Returns: 1})
	learns := thrown(t, loop, api.Guessing{Kind: 2, Bits: 4, Returns: 1})
	if never < 49 || back > 8 || learns > 24 || learns <= back {
		t.Errorf("C5: %d are thrown away by never guessing, %d by guessing back, %d by learning", never, back, learns)
	}
}

// Of every second branch another way, a history tells which.
func TestHistory(t *testing.T) {
	text := "li x1, 50\na: addi x2, x2, 1\nandi x3, x2, 1\nbeqz x3, b\naddi x4, x4, 1\nb: addi x1, x1, -1\nbnez x1, a\nebreak"
	without := thrown(t, text, api.Guessing{Kind: 2, Bits: 8, Returns: 1})
	with := thrown(t, text, api.Guessing{Kind: 3, Bits: 8, History: 6, Returns: 1})
	if with*2 > without {
		t.Errorf("C5: with a history %d are thrown away, without %d", with, without)
	}
}

// A target is learned when its jump retires.
func TestTargets(t *testing.T) {
	text := "auipc x5, 0\nli x1, 50\na: addi x2, x2, 1\njalr x7, 20(x5)\nebreak\naddi x1, x1, -1\nbnez x1, a\nebreak"
	few := thrown(t, text, api.Guessing{Kind: 1, Bits: 1, Targets: 3, Returns: 1})
	if few > 24 {
		t.Errorf("C5: %d are thrown away", few)
	}
}

// Calls in calls: each return is guessed, but for those of which the stack has no place.
func TestReturns(t *testing.T) {
	text := "li x9, 50\na: addi x2, x2, 1\ncall f\naddi x9, x9, -1\nbnez x9, a\nebreak\nf: mv x5, x1\ncall g\nmv x1, x5\nret\ng: mv x6, x1\ncall h\nmv x1, x6\nret\nh: ret"
	two := thrown(t, text, api.Guessing{Kind: 1, Bits: 1, Returns: 2})
	four := thrown(t, text, api.Guessing{Kind: 1, Bits: 1, Returns: 4})
	if four > 20 || two < 50 {
		t.Errorf("C5: with 4 places %d are thrown away, with 2 %d", four, two)
	}
}

// What throws away takes the stack of returns back: a call that was taken in by a wrong guess leaves nothing there.
func TestStackIsTakenBack(t *testing.T) {
	wrong := map[string]string{
		"branch":    "li x9, 30\na: addi x2, x2, 1\ncall f\naddi x9, x9, -1\nbnez x9, a\nebreak\nf: beq x0, x0, 12\ncall f\ncall f\nret",
		"trap":      "j body\nnop\ncsrrs x7, 0x341, x0\naddi x7, x7, 12\ncsrrw x0, 0x341, x7\nmret\nbody: li x7, 8\ncsrrw x0, 0x305, x7\nli x9, 30\na: addi x2, x2, 1\ncall f\naddi x9, x9, -1\nbnez x9, a\ncsrrw x0, 0x305, x0\nebreak\nf: ecall\ncall f\ncall f\nret",
		"mret":      "j body\nnop\ncsrrs x7, 0x341, x0\naddi x7, x7, 4\ncsrrw x0, 0x341, x7\nmret\ncall body\ncall body\nbody: li x7, 8\ncsrrw x0, 0x305, x7\nli x9, 30\na: addi x2, x2, 1\ncall f\naddi x9, x9, -1\nbnez x9, a\ncsrrw x0, 0x305, x0\nebreak\nf: ecall\nret",
		"too early": "lui x8, 16\nli x9, 30\na: addi x2, x2, 1\nmul x3, x2, x0\nadd x3, x3, x8\ncall f\naddi x9, x9, -1\nbnez x9, a\nebreak\nf: sw x2, (x3)\nlw x4, (x8)\nmv x10, x1\ncall g\nmv x1, x10\nret\ng: ret",
	}
	for name, text := range wrong {
		c := greatest()
		c.Guess = api.Guessing{Kind: 1, Bits: 1, Returns: 4}
		c.BusCycles = 0
		x := ends(t, text, c)
		reg(t, x, 2, 30)
		code := assemble(t, text)
		for pc := range uint32(4 * len(code)) {
			if i := code[pc/4]; pc%4 == 0 && i == 0x00008067 { // ret: what enters behind it enters where it goes
				for _, e := range x.Events {
					if e.Kind == api.EvRetire && e.PC == pc && !isGuessed(x, e) {
						t.Errorf("C5: %s: the return %d was not guessed", name, e.Seq)
					}
				}
			}
		}
	}
}

// isGuessed tells whether an instruction that retired had the next one taken in where it went, at once.
func isGuessed(x api.Report, retired api.Event) bool {
	for _, e := range x.Events {
		if e.Kind == api.EvEnter && e.Seq == retired.Seq+1 {
			return e.PC == retired.What.Next
		}
	}
	return true
}

// The low bit of where a jump goes counts as 0.
func TestJumpToAnOddPlace(t *testing.T) {
	for _, c := range []api.Config{least(), plainly(), greatest()} {
		x := ends(t, "li x5, 11\njalr x1, 2(x5)\nli x2, 1\nebreak", c)
		reg(t, x, 1, 8)
		reg(t, x, 2, 0)
	}
}
