package flow

import (
	"oocore/alu"
	"oocore/api"
	"oocore/isa"
)

type stage int

const (
	waiting stage = iota
	begun
	done
)

// flight is an instruction on its way.
type flight struct {
	seq        int
	pc         uint32
	isCode     bool      // is there code at its place?
	instr      api.Instr // Illegal, if it is none
	class      api.Class
	guess      uint32 // the place of the next one
	mark       api.Mark
	src1, src2 int // names that it reads
	dest, old  int // the name that it writes, and that of the same register ahead of it
	stage      stage
	due        int    // the cycle in which it is done
	value      uint32 // what it writes
	taken      bool   // of a branch or jump
	target     uint32 // likewise
	addr       uint32 // of a load, store or atomic operation
	isPlaced   bool   // has the queue its address?
	loaded     uint32
	held       bool // of a conditional store
	wrote      bool // of an atomic operation
}

func (f *flight) isAccess() bool { return f.class == api.Load || f.class == api.Store }

func (f *flight) isTransfer() bool { return f.class == api.Branch || f.class == api.Jump }

// isStray tells of a branch or jump that is done whether it goes elsewhere than was guessed; where it traps, it goes nowhere.
func (f *flight) isStray() bool {
	return f.isTransfer() && f.target%wordSize == 0 && f.target != f.guess
}

func (f *flight) writes() bool { return isa.Writes(f.instr.Op) && f.instr.Rd != 0 }

func (f *flight) size() int { return alu.Size(f.instr.Op) }

// illegal is the instruction of which the predictor is told where none is to go on.
func illegal() api.Instr { return api.Instr{Op: api.Illegal} }
