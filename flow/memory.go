package flow

import (
	"oocore/alu"
	"oocore/api"
)

const deviceSize = 4

// isDevice tells whether an address is the device's.
func isDevice(addr uint32) bool { return addr-api.Device < deviceSize }

// trapsAt tells whether a load or a store traps. It asks for the first byte alone: of an address that is a multiple of the size the others lie with it, for data are whole lines.
func (c *core) trapsAt(f *flight, addr uint32) bool {
	isThere := addr-api.DataBase < c.board.bytes || f.class == api.Store && isDevice(addr)
	return addr%uint32(f.size()) != 0 || !isThere
}

// store lets a store begin, and throws away the loads that ought to have waited for it.
func (c *core) store(f *flight) {
	base, value := c.values[f.src1], c.values[f.src2]
	addr := base + uint32(f.instr.Imm)
	c.issue(f, 1)
	if c.trapsAt(f, addr) {
		return
	}
	early, _ := c.Address(f.seq, addr, f.size())
	c.Value(f.seq, value)
	if early != none {
		c.again(early)
	}
}

// findBytes lets a load have its bytes, if it need not wait for them; for a line that is not there, the bus is asked. One that traps needs none.
func (c *core) findBytes(f *flight) bool {
	base, offset := c.operands(f)
	addr := base + offset
	if c.trapsAt(f, addr) {
		return true
	}
	c.place(f, addr)
	found, _ := c.Search(f.seq, c.made.Bold)
	if found.Wait {
		return false
	}
	near, isNear := c.readNear(f, found)
	if !isNear {
		c.askToLoad(addr)
		return false
	}
	c.Loaded(f.seq)
	f.loaded = merged(near, found)
	f.value = alu.Widen(f.instr.Op, f.loaded)
	return true
}

// place tells the queue a load's address, once.
func (c *core) place(f *flight, addr uint32) {
	if !f.isPlaced {
		f.addr, f.isPlaced = addr, true
		c.Address(f.seq, addr, f.size())
	}
}

// readNear reads a load's bytes in the cache; where all come of stores, no line is needed.
func (c *core) readNear(f *flight, found api.Found) (uint32, bool) {
	if found.Mask == 1<<f.size()-1 {
		return 0, true
	}
	return c.board.Read(c.number, f.addr, f.size())
}

// merged lays the bytes that come of stores over those of memory.
func merged(memory uint32, found api.Found) uint32 {
	for k := range wordSize {
		if found.Mask>>k&1 == 1 {
			memory &^= 0xff << (8 * k)
		}
	}
	return memory | found.Value
}

// drain writes the oldest store that has retired, if it may.
func (c *core) drain() {
	w, is := c.Oldest()
	switch {
	case !is:
		return
	case isDevice(w.Addr):
		c.board.out = append(c.board.out, byte(w.Data))
	case !c.board.write(c.number, w.Addr, w.Size, w.Data):
		c.ask(w.Addr, true)
		c.isLate = true
		return
	}
	c.Drain()
	c.isLate = false
	c.board.note(api.Event{Core: c.number, Kind: api.EvDrain})
}

// ask asks the bus for a line, if it is not asked for another one already: what waits asks again in each cycle.
func (c *core) ask(addr uint32, write bool) { c.board.Ask(c.number, addr, write) }

// askToLoad leaves the bus to the oldest store that has retired, if that has waited for its line since an earlier cycle: loads come first in each cycle, so that else they could keep it from its line for long, or for ever.
func (c *core) askToLoad(addr uint32) {
	w, _ := c.Oldest()
	if c.isLate && c.board.State(c.number, w.Addr) < api.Exclusive {
		return
	}
	c.ask(addr, false)
}
