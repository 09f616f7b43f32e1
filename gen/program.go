package gen

import (
	"strconv"

	"oocore/api"
	"oocore/tree"
)

// The words of a frame: where the call goes back to, at most 7 temporaries (a call needs one itself), 2 that are free, and the locals.
const (
	firstKept  = 1
	frameWords = 10
)

func (w *writer) program(p *tree.Program, stack int) {
	low := api.DataBase + 4*p.Words
	w.put("li", data, strconv.Itoa(api.DataBase))
	w.put("li", device, strconv.Itoa(api.Device))
	w.put("li", floor, strconv.Itoa(low))
	w.put("li", frame, strconv.Itoa(low+4*stack))
	w.put("call", p.Main.Name)
	w.put("li", fault, "0")
	w.put("ebreak")
	w.fails(wrongIndex, "1")
	w.fails(noStack, "2")
	for _, d := range p.Declarations {
		if f, is := d.(*tree.Func); is {
			w.function(f)
		}
	}
}

// fails writes the end of a program with a fault.
func (w *writer) fails(label, number string) {
	w.here(label)
	w.put("li", value, "0")
	w.put("li", fault, number)
	w.put("ebreak")
}

func (w *writer) function(f *tree.Func) {
	size := 4 * (frameWords + f.Locals)
	w.here(f.Name)
	w.put("addi", frame, frame, strconv.Itoa(-size))
	w.unless("bgeu", frame, floor, noStack)
	w.put("sw", back, word(0, frame))
	for n := range f.Parameters {
		w.put("sw", temporary(n), placeOf(tree.Place{Local: true, Number: n}))
	}
	w.end = w.label()
	w.block(f.Body)
	w.put("li", value, "0")
	w.here(w.end)
	w.put("lw", back, word(0, frame))
	w.put("addi", frame, frame, strconv.Itoa(size))
	w.put("ret")
}

func placeOf(p tree.Place) string {
	if p.Local {
		return word(frameWords+p.Number, frame)
	}
	return word(p.Number, data)
}
