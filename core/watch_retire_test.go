package core_test

import (
	"oocore/alu"
	"oocore/api"
)

// retire is 2.
func (w *watcher) retire() {
	w.t.Helper()
	if w.line {
		place := w.hart.PC()
		if what, is := w.hart.Interrupt(); is {
			w.take("C3", api.EvRetire, -1, place, what)
			if len(w.way) > 0 {
				w.guesses.Restore(w.way[0].mark, 0, api.Instr{}, false)
			}
			w.squash("C4 2", 0)
			w.next = what.Next
			return
		}
	}
	for range w.c.Width {
		if len(w.way) == 0 || !w.isDone(w.way[0]) || !w.retireOne(w.way[0]) {
			return
		}
	}
}

// isDone tells whether the oldest one is done, or must be now.
func (w *watcher) isDone(i *inst) bool {
	w.t.Helper()
	if i.done >= 0 {
		return true
	}
	if i.issued >= 0 || !w.mustNow(i) {
		return false
	}
	w.takes("C4 2", api.EvIssue, i)
	w.takes("C4 2", api.EvDone, i)
	i.issued, i.done, i.late = w.cycle, w.cycle, true
	return true
}

// mustNow asks the bus, where a line is not there.
func (w *watcher) mustNow(i *inst) bool {
	switch i.class {
	case api.Load:
		return w.mayLoad(i)
	case api.Atomic:
		q := w.hart.Ask()
		if q.Op == api.Illegal {
			return true
		}
		if len(w.buffer) > 0 {
			return false
		}
		toWrite := i.i.Op != api.LrW
		if state := w.bus.State(0, q.Addr); state == api.Invalid || toWrite && state == api.Shared {
			w.bus.Ask(0, q.Addr, toWrite)
			return false
		}
		return true
	case api.System:
		return i.i.Op != api.Fence || len(w.buffer) == 0
	}
	return false
}

// retireOne lets the machine do the oldest one; false: it is a trap.
func (w *watcher) retireOne(i *inst) bool {
	w.t.Helper()
	q := w.hart.Ask()
	loaded, held, wrote := w.serve(i, q)
	what := w.hart.Do(loaded, held)
	w.take("C3", api.EvRetire, i.seq, i.pc, what)
	w.way = w.way[1:]
	if what.Cause != api.None {
		w.guesses.Restore(i.mark, i.pc, api.Instr{}, false)
		w.squash("C4 2", 0)
		w.next = what.Next
		return false
	}
	if writes(i) != 0 && i.class < api.Atomic && i.value != what.Value {
		w.fail("the watcher itself: %x, but the machine has %x", i.value, what.Value)
	}
	i.value = what.Value
	if i.class == api.Branch || i.class == api.Jump {
		w.guesses.Learn(i.mark, i.pc, i.i, i.taken, what.Next)
	}
	if early := w.spoiled(q.Addr); wrote && early != nil {
		w.tooEarly("C4 2", early)
	}
	if i.i.Op == api.Mret && what.Next != i.pc+4 {
		w.guesses.Restore(i.mark, i.pc, api.Instr{}, false)
		w.squash("C4 2", 0)
		w.next = what.Next
	}
	return true
}

// serve is the machine's memory: a load sees the buffer.
func (w *watcher) serve(i *inst, q api.Request) (loaded uint32, held, wrote bool) {
	switch {
	case q.Op == api.Illegal:
		return 0, false, false
	case i.class == api.Load:
		loaded, _ = w.bytes(q.Addr, q.Size, w.buffer)
	case i.class == api.Store:
		if q.Addr != i.addr || q.Data != i.word {
			w.fail("the watcher itself: %x to %x, but the machine has %x to %x", i.word, i.addr, q.Data, q.Addr)
		}
		w.buffer = append(w.buffer, i)
	case q.Op == api.ScW:
		held = w.reserved == q.Addr
		w.reserved = 0
		if wrote = held; held {
			w.write(q.Addr, q.Size, q.Data)
		}
	default:
		loaded, _ = w.bytes(q.Addr, q.Size, nil)
		w.bus.Read(0, q.Addr, q.Size)
		if q.Op == api.LrW {
			w.reserved = q.Addr
			break
		}
		wrote = true
		w.write(q.Addr, q.Size, alu.Swap(q.Op, loaded, q.Data))
	}
	return loaded, held, wrote
}
