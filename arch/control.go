package arch

import "oocore/api"

// Bits of mstatus and mie.
const (
	enabled         = 1 << 3 // MIE
	enabledBefore   = 1 << 7 // MPIE
	outside         = 1 << 11
	fromNowToBefore = 4 // how far MPIE is from MIE
)

// controls are the control registers.
type controls struct {
	mstatus, mie, mtvec, mscratch, mepc, mcause, mtval, instret, mhartid uint32
}

// at is the control register with a number; nil: there is none.
func (c *controls) at(n int) *uint32 {
	switch n {
	case api.Mstatus:
		return &c.mstatus
	case api.Mie:
		return &c.mie
	case api.Mtvec:
		return &c.mtvec
	case api.Mscratch:
		return &c.mscratch
	case api.Mepc:
		return &c.mepc
	case api.Mcause:
		return &c.mcause
	case api.Mtval:
		return &c.mtval
	case api.Instret:
		return &c.instret
	case api.Mhartid:
		return &c.mhartid
	}
	return nil
}

// writable are the bits of a control register that can be written; of one that can only be read there are none.
func writable(n int) uint32 {
	switch n {
	case api.Mstatus:
		return enabled | enabledBefore
	case api.Mie:
		return outside
	case api.Mtvec, api.Mepc:
		return ^uint32(wordSize - 1)
	case api.Mscratch, api.Mcause, api.Mtval:
		return ^uint32(0)
	}
	return 0
}

// settings say by operation what a control register becomes of its old value and a.
func settings() []func(old, a uint32) uint32 {
	replace := func(_, a uint32) uint32 { return a }
	add := func(old, a uint32) uint32 { return old | a }
	remove := func(old, a uint32) uint32 { return old &^ a }
	return []func(old, a uint32) uint32{replace, add, remove, replace, add, remove}
}

func handlesControl(op api.Op) bool { return api.Csrrw <= op && op <= api.Csrrci }

// writesControl asks for the field Rs1, and not for its value: a register that happens to be 0 writes.
func writesControl(i api.Instr) bool {
	return handlesControl(i.Op) && (i.Op == api.Csrrw || i.Op == api.Csrrwi || i.Rs1 != 0)
}

func (c *controls) set(op api.Op, n int, a uint32) {
	if r := c.at(n); r != nil {
		*r = settings()[op-api.Csrrw](*r, a) & writable(n)
	}
}

func (c *controls) interruptible() bool { return c.mstatus&enabled != 0 && c.mie != 0 }

// enter keeps of a trap what its handler asks for; no more interrupts come.
func (c *controls) enter(place uint32, f fault) {
	c.mepc, c.mcause, c.mtval = place, uint32(f.cause), f.tval
	c.mstatus = (c.mstatus & enabled) << fromNowToBefore
}

// leave is what mret does to mstatus.
func (c *controls) leave() {
	c.mstatus = enabledBefore | (c.mstatus&enabledBefore)>>fromNowToBefore
}
