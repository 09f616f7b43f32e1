package flow

import (
	"slices"

	"oocore/alu"
	"oocore/api"
)

// begin lets instructions begin, by their classes.
func (c *core) begin() {
	c.beginUnits()
	for _, seq := range c.Ready(api.Muldiv, 1) {
		c.compute(c.find(seq), c.made.MulCycles)
	}
	c.beginStores()
	for _, seq := range c.Ready(api.Load, api.MaxWindow) {
		if f := c.find(seq); c.findBytes(f) {
			c.issue(f, 1)
		}
	}
}

// beginUnits lets begin what the units compute: the oldest, of whatever class.
func (c *core) beginUnits() {
	var list []int
	for _, class := range [...]api.Class{api.Alu, api.Branch, api.Jump} {
		list = append(list, c.Ready(class, c.made.Units)...)
	}
	slices.Sort(list)
	for _, seq := range list[:min(len(list), c.made.Units)] {
		c.compute(c.find(seq), 1)
	}
}

// beginStores asks anew behind each store, since one may throw away others.
func (c *core) beginStores() {
	for list := c.Ready(api.Store, 1); len(list) > 0; list = c.Ready(api.Store, 1) {
		c.store(c.find(list[0]))
	}
}

// find looks for one that is on its way.
func (c *core) find(seq int) *flight {
	k, _ := slices.BinarySearchFunc(c.way, seq, func(f *flight, seq int) int { return f.seq - seq })
	return c.way[k]
}

// issue lets one begin that is done after some cycles.
func (c *core) issue(f *flight, cycles int) {
	c.Issue(f.seq)
	f.stage, f.due = begun, c.board.cycle+cycles
	c.tell(api.EvIssue, f)
}

// compute lets begin what hangs on registers alone. What it comes to is known at once, and told when it is done.
func (c *core) compute(f *flight, cycles int) {
	a, b := c.operands(f)
	switch f.class {
	case api.Branch:
		f.taken, f.target = alu.Taken(f.instr.Op, a, b), f.pc+wordSize
		if f.taken {
			f.target = f.pc + uint32(f.instr.Imm)
		}
	case api.Jump:
		f.taken, f.target, f.value = true, (a+b)&^1, f.pc+wordSize
	default:
		f.value = alu.Exec(f.instr.Op, a, b)
	}
	c.issue(f, cycles)
}

// operands are the place and Imm, where the operation does not read registers instead.
func (c *core) operands(f *flight) (a, b uint32) {
	a, b = f.pc, uint32(f.instr.Imm)
	if f.src1 != none {
		a = c.values[f.src1]
	}
	if f.src2 != none {
		b = c.values[f.src2]
	}
	return a, b
}

// finish tells what is done by now. What is thrown away behind a wrong guess is not.
func (c *core) finish() {
	for k := 0; k < len(c.way); k++ {
		if f := c.way[k]; f.stage == begun && f.due == c.board.cycle {
			c.done(f)
			c.correct(f)
		}
	}
}

// done lets others read what an instruction writes; even if it traps, for those others will be thrown away then.
func (c *core) done(f *flight) {
	c.Done(f.seq)
	f.stage = done
	if f.dest != none {
		c.values[f.dest] = f.value
		c.Wake(f.dest)
	}
	c.tell(api.EvDone, f)
}

// correct goes where a branch or jump goes that was guessed wrongly.
func (c *core) correct(f *flight) {
	if f.isStray() {
		c.Restore(f.mark, f.pc, f.instr, f.taken)
		c.throwAway(f.seq)
		c.next = f.target
	}
}
