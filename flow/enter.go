package flow

import (
	"oocore/api"
	"oocore/isa"
)

// enter takes in instructions, as long as there is room.
func (c *core) enter() {
	for range c.made.Width {
		f := c.fetch(c.next)
		if c.isPastCode() || !c.hasRoom(f) {
			return
		}
		c.takeIn(f)
	}
}

// isPastCode tells whether the youngest one stands where there is no code, so that nothing comes behind it.
func (c *core) isPastCode() bool {
	return len(c.way) > 0 && !c.way[len(c.way)-1].isCode
}

func (c *core) fetch(pc uint32) *flight {
	f := &flight{pc: pc, instr: illegal()}
	if k := pc / wordSize; pc%wordSize == 0 && k < uint32(len(c.code)) {
		f.isCode, f.instr = true, c.code[k]
	}
	f.class = isa.ClassOf(f.instr.Op)
	return f
}

func (c *core) hasRoom(f *flight) bool {
	switch {
	case c.Window.Len() >= c.made.Window:
		return false
	case f.isAccess() && c.Queue.Len() >= c.made.Queue:
		return false
	}
	return !f.writes() || c.Free() > 0
}

func (c *core) takeIn(f *flight) {
	f.guess, f.mark = c.Guess(f.pc, f.instr)
	c.name(f)
	f.seq, _ = c.Window.Enter(api.Entry{Class: f.class, Src1: f.src1, Src2: f.src2, Dest: f.dest})
	if f.isAccess() {
		c.Queue.Enter(f.seq, f.class == api.Store)
	}
	c.way = append(c.way, f)
	c.next = f.guess
	c.tell(api.EvEnter, f)
}

// name gives an instruction the names that it reads, ahead of the one that it writes: they may be of the same register.
func (c *core) name(f *flight) {
	f.src1, f.src2, f.dest = none, none, none
	first, second := isa.Reads(f.instr.Op)
	if first {
		f.src1 = c.Look(f.instr.Rs1)
	}
	if second {
		f.src2 = c.Look(f.instr.Rs2)
	}
	if f.writes() {
		f.dest, f.old, _ = c.Take(f.instr.Rd)
	}
}
