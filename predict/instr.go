package predict

import (
	"oocore/api"
	"oocore/isa"
)

// link is the register in which calls leave where they come back to.
const link = 1

func isBranch(i api.Instr) bool { return isa.ClassOf(i.Op) == api.Branch }

func isReturn(i api.Instr) bool { return i.Op == api.Jalr && i.Rs1 == link && i.Rd == 0 }

// isFar tells of a jump whose target only its register says, and no stack.
func isFar(i api.Instr) bool { return i.Op == api.Jalr && !isReturn(i) }

func isCall(i api.Instr) bool { return isa.ClassOf(i.Op) == api.Jump && i.Rd == link }
