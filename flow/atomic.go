package flow

import (
	"oocore/alu"
	"oocore/api"
)

// doAtomic does what the oldest instruction, an atomic operation, asks of memory; false: it must wait. One that traps asks nothing, and waits for nothing.
func (c *core) doAtomic(f *flight) bool {
	q := c.Hart.Ask()
	switch {
	case q.Op == api.Illegal:
		return true
	case c.storeWaits() || !c.hasLine(q):
		return false
	}
	f.addr = q.Addr
	reserved := &c.board.reserved[c.number]
	switch q.Op {
	case api.LrW:
		*reserved = q.Addr
		f.loaded = c.read(q)
	case api.ScW:
		f.held = *reserved == q.Addr
		f.wrote = f.held && c.write(q, q.Data)
		*reserved = 0
	default:
		f.loaded = c.read(q)
		f.wrote = c.write(q, alu.Swap(q.Op, f.loaded, q.Data))
	}
	return true
}

// hasLine tells whether an atomic operation's line is there; else the bus is asked for it.
func (c *core) hasLine(q api.Request) bool {
	enough, writes := api.Exclusive, true
	if q.Op == api.LrW {
		enough, writes = api.Shared, false
	}
	if c.board.State(c.number, q.Addr) >= enough {
		return true
	}
	c.ask(q.Addr, writes)
	return false
}

func (c *core) read(q api.Request) uint32 {
	value, _ := c.board.Read(c.number, q.Addr, q.Size)
	return value
}

func (c *core) write(q api.Request, value uint32) bool {
	return c.board.write(c.number, q.Addr, q.Size, value)
}
