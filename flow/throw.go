package flow

import "oocore/api"

// throwAway throws away all behind one, the youngest first. Where the next one is taken in, and what the predictor remembers, is for the caller to say.
func (c *core) throwAway(after int) {
	for range c.Window.Squash(after) {
		last := len(c.way) - 1
		f := c.way[last]
		c.way = c.way[:last]
		c.unname(f)
		c.tell(api.EvSquash, f)
	}
	c.Queue.Squash(after)
}

func (c *core) unname(f *flight) {
	if f.dest != none {
		c.Undo(f.instr.Rd, f.dest, f.old)
	}
}

// again throws away a load that was too early, with all behind it, and takes them in again.
func (c *core) again(seq int) {
	f := c.find(seq)
	c.forgetFrom(f)
	c.throwAway(seq - 1)
	c.next = f.pc
}

// forgetFrom lets the predictor forget an instruction, and what it guessed behind it.
func (c *core) forgetFrom(f *flight) { c.Restore(f.mark, f.pc, illegal(), false) }

// spoil throws away loads whose line has left the core's cache: it would not be told any more if their bytes were written.
func (c *core) spoil(snoops []api.Snoop) {
	oldest := none
	for _, s := range snoops {
		if s.Core != c.number || s.To != api.Invalid {
			continue
		}
		if seq := c.Spoil(s.Addr); seq != none && (oldest == none || seq < oldest) {
			oldest = seq
		}
	}
	if oldest != none {
		c.again(oldest)
	}
}
