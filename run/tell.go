package run

import (
	"strconv"
	"strings"

	"oocore/api"
)

// How many digits of a number are told.
const (
	byteDigits  = 2
	placeDigits = 5
	wordDigits  = 8
)

// The registers in which a compiled program leaves what it comes to.
const (
	valueRegister = 10
	faultRegister = 11
)

// tell is a report in lines.
func tell(r api.Report) string {
	var s strings.Builder
	how := "cut off"
	if r.Ended {
		how = "ended"
	}
	s.WriteString(how + " after " + strconv.Itoa(retired(r.Events)) + " instructions\n")
	for k, v := range r.Regs[0] {
		tellWord(&s, "x"+strconv.Itoa(k), v)
	}
	if r.Out != "" {
		s.WriteString("out = " + bytesOf(r.Out) + "\n")
	}
	for k, v := range wordsOf(r.Data) {
		tellWord(&s, hex(uint32(api.DataBase+wordSize*k), placeDigits), v)
	}
	return s.String()
}

// tellWord tells what stands in a place, unless it is 0.
func tellWord(s *strings.Builder, place string, v uint32) {
	if v != 0 {
		s.WriteString(place + " = " + hex(v, wordDigits) + "\n")
	}
}

func retired(events []api.Event) int {
	n := 0
	for _, e := range events {
		if e.Kind == api.EvRetire {
			n++
		}
	}
	return n
}

// bytesOf a text are the digits of its bytes.
func bytesOf(text string) string {
	var s strings.Builder
	for k := range len(text) {
		s.WriteString(hex(uint32(text[k]), byteDigits))
	}
	return s.String()
}

// hex is a number in at least so many digits.
func hex(v uint32, digits int) string {
	s := strconv.FormatUint(uint64(v), 16)
	return strings.Repeat("0", max(0, digits-len(s))) + s
}

// outcome is what a compiled program came to; of one that is cut off nothing is told.
func outcome(r api.Report, globals int) api.Outcome {
	if !r.Ended {
		return api.Outcome{}
	}
	return api.Outcome{
		Ended:   true,
		Out:     r.Out,
		Value:   r.Regs[0][valueRegister],
		Fault:   int(r.Regs[0][faultRegister]),
		Globals: wordsOf(r.Data[:wordSize*globals]),
	}
}
