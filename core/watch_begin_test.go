package core_test

import (
	"oocore/alu"
	"oocore/api"
)

// isThere tells whether what is read is there; early: since the end of 1.
func (w *watcher) isThere(i *inst, early bool) bool {
	for _, o := range i.operand {
		if o.of != nil && (o.of.done < 0 || early && o.of.late && o.of.done == w.cycle) {
			return false
		}
	}
	return i.entered < w.cycle
}

// may are those of some classes that may begin, the oldest first.
func (w *watcher) may(early bool, classes ...api.Class) (list []*inst) {
	for _, i := range w.way {
		for _, c := range classes {
			if i.class == c && i.issued < 0 && w.isThere(i, early) {
				list = append(list, i)
			}
		}
	}
	return list
}

// begin is 3.
func (w *watcher) begin() {
	w.t.Helper()
	w.beginOldest(w.c.Units, 1, api.Alu, api.Branch, api.Jump)
	w.beginOldest(1, w.c.MulCycles, api.Muldiv)
	for begun := 0; ; begun++ {
		list := w.may(false, api.Store)
		k := w.nextOf(list)
		if k < 0 {
			if must := w.may(true, api.Store); begun == 0 && len(must) > 0 {
				w.fail("C4 3: the store %d may begin", must[0].seq)
			}
			break
		}
		w.beginStore(list[k])
	}
	w.beginLoads()
}

// nextOf tells which one of a list begins next, or -1.
func (w *watcher) nextOf(list []*inst) int {
	for k, i := range list {
		if w.isNext(api.EvIssue, i.seq) {
			return k
		}
	}
	return -1
}

// beginOldest: none that may begin stays behind, but behind as many as there may be.
func (w *watcher) beginOldest(most, cycles int, classes ...api.Class) {
	w.t.Helper()
	must := w.may(true, classes...)
	begun := 0
	for _, i := range w.may(false, classes...) {
		if begun < most && w.isNext(api.EvIssue, i.seq) {
			w.takes("C4 3", api.EvIssue, i)
			i.issued, i.due = w.cycle, w.cycle+cycles
			w.work(i)
			begun++
		} else if begun < most && len(must) > 0 && contains(must, i) {
			w.fail("C4 3: %d may begin", i.seq)
		}
	}
}

func contains(list []*inst, i *inst) bool {
	for _, o := range list {
		if o == i {
			return true
		}
	}
	return false
}

// work is what an instruction comes to that hangs on registers alone.
func (w *watcher) work(i *inst) {
	a, b := i.operand[0].get(), i.operand[1].get()
	imm := uint32(i.i.Imm)
	switch i.class {
	case api.Branch:
		i.taken, i.target = alu.Taken(i.i.Op, a, b), i.pc+4
		if i.taken {
			i.target = i.pc + imm
		}
	case api.Jump:
		i.taken, i.target, i.value = true, i.pc+imm, i.pc+4
		if i.i.Op == api.Jalr {
			i.target = (a + imm) &^ 1
		}
	default:
		if !i.operand[0].reads {
			a = i.pc
		}
		if !i.operand[1].reads {
			b = imm
		}
		i.value = alu.Exec(i.i.Op, a, b)
	}
	i.traps = i.target%4 != 0
}

// at tells where a load or a store goes; false: it traps.
func (w *watcher) at(i *inst) (uint32, bool) {
	addr := i.operand[0].get() + uint32(i.i.Imm)
	end := uint64(addr) + uint64(i.size)
	isData := addr >= api.DataBase && end <= api.DataBase+uint64(len(w.data))
	isDevice := i.class == api.Store && addr >= api.Device && end <= api.Device+4
	return addr, addr%uint32(i.size) == 0 && (isData || isDevice)
}

func (w *watcher) beginStore(i *inst) {
	w.t.Helper()
	w.takes("C4 3", api.EvIssue, i)
	i.issued, i.due = w.cycle, w.cycle+1
	addr, ok := w.at(i)
	if !ok {
		i.size = 0 // it writes nothing, and is no store to any load
		return
	}
	i.addr, i.word = addr, i.operand[1].get()
	if i.size < 4 {
		i.word &= 1<<(8*i.size) - 1
	}
	if load := w.wrong(i); load != nil {
		w.tooEarly("C4 3", load)
	}
}

// wrong is the oldest load that ought to have waited for a store.
func (w *watcher) wrong(s *inst) *inst {
	for _, i := range w.way {
		for k, of := range i.from {
			at := i.addr + uint32(k)
			if i.seq > s.seq && (of == nil || of.seq < s.seq) && at >= s.addr && at < s.addr+uint32(s.size) {
				return i
			}
		}
	}
	return nil
}

// older are the stores ahead of a load whose addresses are known; false: there are others.
func (w *watcher) older(load *inst) (list []*inst, all bool) {
	list, all = append(list, w.buffer...), true
	for _, i := range w.way {
		if i.class == api.Store && i.seq < load.seq {
			if i.issued >= 0 && i.size > 0 {
				list = append(list, i)
			} else {
				all = false
			}
		}
	}
	return list, all
}

// mayLoad tells whether a load need not wait, and has its bytes near; it has them then. Else the bus is asked for its line, unless it is a store's turn.
func (w *watcher) mayLoad(i *inst) bool {
	addr, ok := w.at(i)
	if !ok {
		return true
	}
	stores, all := w.older(i)
	if !all && !w.c.Bold {
		return false
	}
	raw, from := w.bytes(addr, i.size, stores)
	for _, of := range from {
		if of == nil {
			if _, near := w.bus.Read(0, addr, i.size); !near {
				if !w.storeFirst() {
					w.bus.Ask(0, addr, false)
				}
				return false
			}
			break
		}
	}
	i.addr, i.from, i.value = addr, from, alu.Widen(i.i.Op, raw)
	return true
}

// storeFirst tells whether it is the turn of the buffer's store to ask the bus, since it was kept from it.
func (w *watcher) storeFirst() bool {
	return w.kept && w.bus.State(0, w.buffer[0].addr) < api.Exclusive
}

// beginLoads lets begin all that may: the chapter asks for one at least.
func (w *watcher) beginLoads() {
	w.t.Helper()
	for _, i := range w.may(false, api.Load) {
		if w.mayLoad(i) {
			w.takes("C4 3", api.EvIssue, i)
			i.issued, i.due = w.cycle, w.cycle+1
		}
	}
}
