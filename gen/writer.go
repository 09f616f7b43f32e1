package gen

import (
	"strconv"
	"strings"
)

// Registers that are always for one thing. A call gives its arguments in the first temporaries, and comes to the first one.
const (
	back   = "x1" // where a call goes back to
	frame  = "x2" // the frame of the function that is done: its first word
	floor  = "x3" // the stack's first word; frames go down to it from the stack's end
	spare  = "x5"
	kept   = "x6" // what was kept in the frame
	data   = "x8"
	device = "x9"
	value  = "x10" // the program's value, and the first temporary
	fault  = "x11" // the program's fault, and the second temporary
)

// Labels that no program has a name for, since names have small letters alone.
const (
	wrongIndex = "INDEX"
	noStack    = "STACK"
	innerLabel = "L"
)

// writer writes a program line by line.
type writer struct {
	text   strings.Builder
	labels int    // how many were made
	held   int    // how many temporaries are kept in the frame
	end    string // of the function
}

func (w *writer) put(name string, operands ...string) {
	w.text.WriteString(name)
	if len(operands) > 0 {
		w.text.WriteString(" " + strings.Join(operands, ", "))
	}
	w.text.WriteString("\n")
}

func (w *writer) here(label string) { w.text.WriteString(label + ":\n") }

func (w *writer) label() string {
	w.labels++
	return innerLabel + strconv.Itoa(w.labels)
}

// unless writes a branch that leaves out a jump to a label: a jump reaches all code that there may be, a branch does not.
func (w *writer) unless(branch, first, second, label string) {
	w.put(branch, first, second, "8")
	w.put("j", label)
}

// temporary is the register of that number.
func temporary(n int) string { return "x" + strconv.Itoa(10+n) }

// word is the place of a word behind what a register says.
func word(n int, register string) string {
	return strconv.Itoa(4*n) + "(" + register + ")"
}

// keep takes a temporary into the frame, ahead of a call, in which all of them may be written.
func (w *writer) keep(register string) {
	w.put("sw", register, word(firstKept+w.held, frame))
	w.held++
}

// fetch takes the one that was kept last.
func (w *writer) fetch(register string) {
	w.held--
	w.put("lw", register, word(firstKept+w.held, frame))
}
