package flow

import "oocore/api"

// retire lets the oldest ones retire, as many as may; an interrupt comes ahead of them.
func (c *core) retire() {
	if c.isInterrupted() {
		return
	}
	for range c.made.Width {
		if len(c.way) == 0 || !c.isDoneNow(c.way[0]) {
			return
		}
		c.commit(c.way[0])
	}
}

func (c *core) isInterrupted() bool {
	if !c.line {
		return false
	}
	what, is := c.Interrupt()
	if !is {
		return false
	}
	c.board.note(api.Event{Core: c.number, Kind: api.EvRetire, Seq: none, PC: what.PC, What: what})
	if len(c.way) > 0 {
		c.forgetFrom(c.way[0])
	}
	c.throwAway(none)
	c.next = what.Next
	return true
}

// isDoneNow tells whether the oldest one is done, or can be at once.
func (c *core) isDoneNow(f *flight) bool {
	if f.stage == done {
		return true
	}
	if f.stage == begun || !c.mayBeginOldest(f) {
		return false
	}
	c.issue(f, 0)
	c.done(f)
	return true
}

// mayBeginOldest tells whether one that has not begun may begin because it is the oldest; what it asks of memory is done then.
func (c *core) mayBeginOldest(f *flight) bool {
	switch {
	case f.class == api.Load:
		return c.findBytes(f)
	case f.class == api.Atomic:
		return c.doAtomic(f)
	case f.instr.Op == api.Fence:
		return !c.storeWaits()
	}
	return f.class == api.System
}

// commit lets the oldest one retire, as the hart does it.
func (c *core) commit(f *flight) {
	what := c.Do(f.loaded, f.held)
	c.board.note(api.Event{Core: c.number, Kind: api.EvRetire, Seq: f.seq, PC: f.pc, What: what})
	c.Window.Retire()
	c.way = c.way[1:]
	if what.Cause != api.None {
		c.trap(f, what.Next)
		return
	}
	c.settle(f, what)
	c.turnAside(f, what)
}

// trap throws away what is behind, so that no more can retire in this cycle, and what the instruction itself took.
func (c *core) trap(f *flight, next uint32) {
	c.forgetFrom(f)
	c.throwAway(f.seq)
	c.unname(f)
	c.Queue.Squash(f.seq - 1)
	c.next = next
}

// settle makes an instruction's results those of the core. What an operation of the classes Atomic and System writes is known only by the hart.
func (c *core) settle(f *flight, what api.Retired) {
	if f.dest != none {
		c.values[f.dest] = what.Value
		c.Release(f.old)
	}
	if f.isAccess() {
		c.Queue.Retire(f.seq)
	}
	if f.isTransfer() {
		c.Learn(f.mark, f.pc, f.instr, f.taken, what.Next)
	}
}

// turnAside throws away what is on its way and has become wrong by an instruction that retired.
func (c *core) turnAside(f *flight, what api.Retired) {
	switch {
	case f.wrote:
		if seq := c.Spoil(f.addr); seq != none {
			c.again(seq)
		}
	case f.instr.Op == api.Mret && what.Next != f.pc+wordSize:
		c.forgetFrom(f)
		c.throwAway(f.seq)
		c.next = what.Next
	}
}
