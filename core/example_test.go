package core_test

import (
	"testing"

	"oocore/api"
)

// The chapter's first example: a branch that is guessed wrongly.
func TestFirstExample(t *testing.T) {
	x := ends(t, "li x1, 3\nmul x2, x1, x1\nbeq x0, x0, 8\necall\naddi x3, x2, 1\nebreak", plainly())
	shows(t, x,
		"Enter 0: 0, Enter 1: 4",
		"Issue 0, Enter 2: 8, Enter 3: c",
		"Done 0, Retire 0, Issue 2, Issue 1, Enter 4: 10, Enter 5: 14",
		"Done 2, Squash 5, Squash 4, Squash 3, Enter 6: 10, Enter 7: 14",
		"Enter 8: 18",
		"Done 1, Retire 1, Retire 2, Issue 6",
		"Done 6, Retire 6, Issue 7, Done 7, Retire 7, Squash 8")
	reg(t, x, 3, 10)
	if last := x.Events[len(x.Events)-2].What; last.Cause != api.Breakpoint || last.PC != 0x14 || last.Next != 0x14 {
		t.Errorf("C3: the trap is %+v", last)
	}
}

// The chapter's second example: a load that goes ahead of a store wrongly.
func TestSecondExample(t *testing.T) {
	x := runsWith(t, "lui x8, 16\nmul x2, x8, x0\nadd x2, x2, x8\nsw x8, (x2)\nlw x3, (x8)\nebreak", make([]byte, 16), plainly())
	shows(t, x,
		"Enter 0: 0, Enter 1: 4",
		"Issue 0, Enter 2: 8, Enter 3: c",
		"Done 0, Retire 0, Issue 1, Enter 4: 10, Enter 5: 14",
		"Enter 6: 18",
		"",
		"Done 1, Retire 1, Issue 2, Issue 4",
		"Done 2, Done 4, Retire 2, Issue 3, Squash 6, Squash 5, Squash 4, Enter 7: 10, Enter 8: 14",
		"Done 3, Retire 3, Issue 7, Done 7, Retire 7, Enter 9: 18, Drain",
		"Issue 8, Done 8, Retire 8, Squash 9")
	reg(t, x, 3, 0x10000)
	if x.Data[2] != 1 || !x.Ended || x.Cycles != 9 {
		t.Errorf("C2: data %x, ended %v after %d cycles", x.Data, x.Ended, x.Cycles)
	}
}
