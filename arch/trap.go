package arch

import (
	"oocore/alu"
	"oocore/api"
	"oocore/isa"
)

// deviceSize is how many bytes the device has.
const deviceSize = 4

// fault is why an instruction traps; its cause is None, if it does not.
type fault struct {
	cause int
	tval  uint32
}

func fine() fault { return fault{cause: api.None} }

// look reads the instruction at the hart's place, and tells the first trap that it comes to.
func (h *Hart) look() (word uint32, i api.Instr, f fault) {
	if h.place/wordSize >= uint32(len(h.code)) {
		return 0, api.Instr{}, fault{api.FetchFault, h.place}
	}
	word = h.code[h.place/wordSize]
	i, ok := isa.Decode(word)
	if !ok || h.forbids(i) {
		return word, i, fault{api.IllegalInstr, word}
	}
	return word, i, h.faultOf(i)
}

// forbids tells whether an instruction asks for a control register that is not there, or writes one that can only be read.
func (h *Hart) forbids(i api.Instr) bool {
	return handlesControl(i.Op) && h.at(i.Imm) == nil || writesControl(i) && writable(i.Imm) == 0
}

func (h *Hart) faultOf(i api.Instr) fault {
	switch i.Op {
	case api.Ebreak:
		return fault{api.Breakpoint, h.place}
	case api.Ecall:
		return fault{api.EnvCall, 0}
	}
	if alu.Size(i.Op) != 0 {
		return h.faultOfAddress(i)
	}
	if to, goes := h.target(i); goes && to%wordSize != 0 {
		return fault{api.FetchAligned, to}
	}
	return fine()
}

func (h *Hart) faultOfAddress(i api.Instr) fault {
	at := h.address(i)
	uneven, missing := api.StoreAligned, api.StoreFault
	if isa.ClassOf(i.Op) == api.Load || i.Op == api.LrW {
		uneven, missing = api.LoadAligned, api.LoadFault
	}
	switch {
	case at%uint32(alu.Size(i.Op)) != 0:
		return fault{uneven, at}
	case !h.has(i, at):
		return fault{missing, at}
	}
	return fine()
}

// has asks for the first byte alone: of an address that is a multiple of Size the others lie with it, for data are whole lines.
func (h *Hart) has(i api.Instr, at uint32) bool {
	return at-api.DataBase < h.data || isa.ClassOf(i.Op) == api.Store && at-api.Device < deviceSize
}

// trap goes where traps are handled; where nothing handles them, it is the hart's end.
func (h *Hart) trap(word uint32, f fault) api.Retired {
	r := api.Retired{PC: h.place, Word: word, Cause: f.cause, Tval: f.tval}
	if h.mtvec == 0 {
		h.halted = true
	} else {
		h.enter(h.place, f)
		h.place = h.mtvec
	}
	r.Next = h.place
	return r
}
