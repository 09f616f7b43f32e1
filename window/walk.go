package window

import "iter"

// fromOldest goes through the places of the instructions that are on their way.
func (w *Window) fromOldest(yield func(int) bool) {
	for k := range w.on {
		if !yield(k) {
			return
		}
	}
}

// fromYoungest goes the other way round.
func (w *Window) fromYoungest(yield func(int) bool) {
	for k := len(w.on) - 1; k >= 0; k-- {
		if !yield(k) {
			return
		}
	}
}

// place tells where an instruction stands; is it in?
func (w *Window) place(number int) (int, bool) {
	for k := range w.fromOldest {
		if w.on[k].number == number {
			return k, true
		}
	}
	return 0, false
}

// numbers tells the numbers of those that are wanted, in the order in which they are gone through, at most so many.
func (w *Window) numbers(walk iter.Seq[int], most int, wanted func(int) bool) []int {
	var told []int
	for k := range walk {
		if len(told) >= most {
			break
		}
		if wanted(k) {
			told = append(told, w.on[k].number)
		}
	}
	return told
}
