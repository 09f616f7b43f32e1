package asm

import (
	"strconv"
	"strings"

	"oocore/api"
)

// operationNames has each operation's name and the letter of its format, in the order of their numbers, from 1 on.
const operationNames = `
	lui U        auipc U      jal J        jalr L
	beq B        bne B        blt B        bge B
	bltu B       bgeu B       lb L         lh L
	lw L         lbu L        lhu L        sb S
	sh S         sw S         addi I       slti I
	sltiu I      xori I       ori I        andi I
	slli H       srli H       srai H       add R
	sub R        sll R        slt R        sltu R
	xor R        srl R        sra R        or R
	and R        mul R        mulh R       mulhsu R
	mulhu R      div R        divu R       rem R
	remu R       lr.w K       sc.w A       amoswap.w A
	amoadd.w A   amoxor.w A   amoand.w A   amoor.w A
	amomin.w A   amomax.w A   amominu.w A  amomaxu.w A
	fence F      ecall N      ebreak N     mret N
	wfi N        csrrw C      csrrs C      csrrc C
	csrrwi D     csrrsi D     csrrci D`

// registerNames has the other names of the registers 0 to 31.
const registerNames = `
	zero ra sp gp tp t0 t1 t2 s0 s1 a0 a1 a2 a3 a4 a5
	a6 a7 s2 s3 s4 s5 s6 s7 s8 s9 s10 s11 t3 t4 t5 t6`

// framePointer is the one register that has a third name.
const framePointer = 8

// orders stand behind the names of the formats A and K, for Imm 0 to 3.
var orders = [...]string{"", ".rl", ".aq", ".aqrl"}

// operation is told by its name; its format says which operands it has.
type operation struct {
	name, format string
}

// allOperations gives the operations at their numbers; at 0 stands none.
func allOperations() []operation {
	all := []operation{{}}
	words := strings.Fields(operationNames)
	for k := 0; k < len(words); k += 2 {
		all = append(all, operation{name: words[k], format: words[k+1]})
	}
	return all
}

// ordered tells whether an operation's Imm stands in its name.
func (o operation) ordered() bool { return o.format == "A" || o.format == "K" }

func (o operation) slots() []slot {
	switch o.format {
	case "U":
		return []slot{slotRd, slotImm}
	case "J":
		return []slot{slotRd, slotTarget}
	case "I", "H":
		return []slot{slotRd, slotRs1, slotImm}
	case "L":
		return []slot{slotRd, slotPlace}
	case "S":
		return []slot{slotRs2, slotPlace}
	case "B":
		return []slot{slotRs1, slotRs2, slotTarget}
	case "R":
		return []slot{slotRd, slotRs1, slotRs2}
	case "A":
		return []slot{slotRd, slotRs2, slotBare}
	case "K":
		return []slot{slotRd, slotBare}
	case "C":
		return []slot{slotRd, slotImm, slotRs1}
	case "D":
		return []slot{slotRd, slotImm, slotRs1Number}
	case "F":
		return []slot{slotImm}
	}
	return nil
}

// opening is what an operation's name tells: the instruction as far as it is known, and the operands that are to come.
type opening struct {
	instr api.Instr
	slots []slot
}

// vocabulary has what the names of registers and operations stand for.
type vocabulary struct {
	registers map[string]int
	openings  map[string]opening
}

func newVocabulary() vocabulary {
	v := vocabulary{registers: map[string]int{"fp": framePointer}, openings: map[string]opening{}}
	for n, name := range strings.Fields(registerNames) {
		v.registers[name] = n
		v.registers[registerName(n)] = n
	}
	all := allOperations()
	for op := api.Lui; op <= api.Csrrci; op++ {
		o := all[op]
		for imm, order := range orders {
			if imm == 0 || o.ordered() {
				v.openings[o.name+order] = opening{api.Instr{Op: op, Imm: imm}, o.slots()}
			}
		}
	}
	return v
}

func registerName(n int) string { return "x" + strconv.Itoa(n) }
