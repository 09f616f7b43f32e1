package core_test

import (
	"fmt"
	"math/rand"
	"strings"
	"testing"

	"oocore/api"
	"oocore/core"
)

// writer writes random programs: most addresses are data, and are known late or early; most targets are near; traps go to a handler, which goes on behind them, or to nowhere.
type writer struct{ *rand.Rand }

func (w writer) one(of ...string) string { return of[w.Intn(len(of))] }

func (w writer) reg() string { return fmt.Sprintf("x%d", 1+w.Intn(7)) }

func (w writer) base() string { return w.one("x8", "x8", "x8", "x11", "x11", "x12", "x13") }

// offset is seldom one that traps.
func (w writer) offset(size int) int {
	if w.Intn(60) == 0 {
		return w.Intn(40) - 8
	}
	return w.Intn(64/size) * size
}

func (w writer) compute() string {
	if w.Intn(4) == 0 {
		return fmt.Sprintf("%s %s, %s, %s", w.one("mul", "mul", "mulhu", "div", "rem", "divu"), w.reg(), w.reg(), w.reg())
	}
	if w.Intn(2) == 0 {
		return fmt.Sprintf("%s %s, %s, %d", w.one("addi", "addi", "xori", "andi", "slti"), w.reg(), w.reg(), w.Intn(64)-16)
	}
	return fmt.Sprintf("%s %s, %s, %s", w.one("add", "sub", "xor", "or", "and", "slt", "sll", "srl"), w.reg(), w.reg(), w.reg())
}

// late computes an address of data, of registers that may take long.
func (w writer) late() string {
	r := w.one("x11", "x12")
	first := w.one("andi "+r+", "+w.reg()+", 28", "mul "+r+", "+w.reg()+", "+w.reg()+"\nandi "+r+", "+r+", 12")
	return first + "\nadd " + r + ", " + r + ", x8"
}

func (w writer) memory() string {
	k := w.Intn(3)
	size := 1 << k
	if w.Intn(2) == 0 {
		return fmt.Sprintf("%s %s, %d(%s)", []string{"sb", "sh", "sw"}[k], w.reg(), w.offset(size), w.base())
	}
	return fmt.Sprintf("%s %s, %d(%s)", []string{w.one("lb", "lbu"), w.one("lh", "lhu"), "lw"}[k], w.reg(), w.offset(size), w.base())
}

func (w writer) transfer() string {
	switch w.Intn(8) {
	case 0:
		return fmt.Sprintf("jal x1, %d", 4+4*w.Intn(3))
	case 1:
		return "jalr x0, (x1)"
	case 2:
		return fmt.Sprintf("auipc x5, 0\njalr %s, %d(x5)", w.one("x0", "x1", "x6"), 8+4*w.Intn(3))
	case 3:
		return fmt.Sprintf("%s %s, %s, %d", w.one("beq", "bne", "blt"), w.reg(), w.reg(), -4*w.Intn(4))
	}
	return fmt.Sprintf("%s %s, %s, %d", w.one("beq", "bne", "blt", "bgeu", "bltu", "bge"), w.reg(), w.reg(), 4+4*w.Intn(4))
}

func (w writer) special() string {
	switch w.Intn(12) {
	case 0, 1:
		return fmt.Sprintf("%s %s, %s, (%s)", w.one("amoadd.w", "amoswap.w", "amomax.w", "amoxor.w"), w.reg(), w.reg(), w.base())
	case 2:
		return fmt.Sprintf("lr.w %s, (%s)", w.reg(), w.base())
	case 3:
		return fmt.Sprintf("sc.w %s, %s, (%s)", w.reg(), w.reg(), w.base())
	case 4:
		return "fence 255"
	case 5:
		return fmt.Sprintf("sb %s, %d(x9)", w.reg(), w.Intn(4))
	case 6:
		return fmt.Sprintf("csrrs %s, %s, x0", w.reg(), w.one("0xc02", "0x341", "0x342", "0x300", "0xf14"))
	case 7:
		return fmt.Sprintf("csrrw %s, 0x340, %s", w.reg(), w.reg())
	case 8:
		return w.one("csrrsi x0, 0x300, 8", "csrrci x0, 0x300, 8", "csrrwi x0, 0x300, 8")
	case 9:
		return w.one("wfi", "ecall", ".word 0", "csrrw x0, 0xc02, x1", "jal x1, 6", "beq x0, x0, 2", "lw x3, 1(x8)", "lw x3, 0(x0)", "sw x3, 2(x9)", "amoadd.w x3, x3, (x9)", "csrrs x1, 0x123, x0", "jalr x1, (x8)")
	case 10:
		return "lui x8, 16"
	}
	return "nop"
}

// program has its handler at 4; behind it stands a call, which is taken in, and thrown away.
func (w writer) program() string {
	lines := []string{"j body", "csrrs x14, 0x341, x0", "addi x14, x14, 4", "csrrw x0, 0x341, x14", "mret", "call body", "body: lui x8, 16", "lui x9, 32", "mv x11, x8", "addi x12, x8, 16", "addi x13, x8, 32", "li x15, 4", "lui x5, 1", "srli x5, x5, 1", "csrrw x0, 0x304, x5", "li x1, 7", "li x2, -3"}
	if w.Intn(5) > 0 {
		lines = append(lines, "csrrw x0, 0x305, x15")
	}
	if w.Intn(4) > 0 {
		lines = append(lines, "csrrwi x0, 0x300, 8")
	}
	lines = append(lines, "again: nop")
	kinds := []func() string{w.compute, w.compute, w.late, w.memory, w.memory, w.memory, w.transfer, w.special}
	if w.Intn(3) == 0 {
		kinds = append(kinds, w.memory, w.memory, w.memory, w.memory)
	}
	for range 5 + w.Intn(40) {
		lines = append(lines, kinds[w.Intn(len(kinds))]())
	}
	return strings.Join(append(lines, w.one("j again", "csrrw x0, 0x305, x0\nebreak", "csrrw x0, 0x305, x0", "nop")), "\n")
}

// turns are cycles at which the interrupt line turns: some twice, some that never come, in no order.
func (w writer) turns() (list []int) {
	for range w.Intn(6) {
		n := w.Intn(300)
		list = append(list, n, []int{n, -n, n + 1, n + 2, n + 20, 1000000}[w.Intn(6)])
	}
	w.Shuffle(len(list), func(a, b int) { list[a], list[b] = list[b], list[a] })
	return list
}

// Random programs on cores of any make, each held against all promises.
func TestRandomPrograms(t *testing.T) {
	for seed := range int64(1200) {
		w := writer{rand.New(rand.NewSource(seed))}
		text := w.program()
		code := assemble(t, text)
		data := make([]byte, 64+16*w.Intn(4))
		w.Read(data)
		c, lines, cycles := anyMake(w.Rand), w.turns(), 50+w.Intn(500)
		x, err := core.Run(code, data, c, lines, cycles)
		if err != nil {
			t.Fatalf("C1: seed %d: %v", seed, err)
		}
		watch(t, fmt.Sprintf("seed %d: %s", seed, text), code, data, c, lines, cycles, x)
	}
}

// The random programs come to all that is promised: else they would show nothing.
func TestRandomProgramsAreOfAllKinds(t *testing.T) {
	seen, traps, ended, drained := map[api.Op]int{}, map[int]int{}, 0, 0
	for seed := range int64(300) {
		w := writer{rand.New(rand.NewSource(seed))}
		code := assemble(t, w.program())
		x, _ := core.Run(code, make([]byte, 112), anyMake(w.Rand), w.turns(), 500)
		if x.Ended {
			ended++
		}
		drained += count(x, api.EvDrain)
		for _, n := range causes(x) {
			traps[n]++
		}
		for _, e := range x.Events {
			if e.Kind == api.EvRetire && e.What.Cause == api.None {
				seen[opOf(e.What.Word)]++
			}
		}
	}
	for _, op := range []api.Op{api.Mul, api.Div, api.Jal, api.Jalr, api.Beq, api.Lb, api.Lw, api.Sb, api.Sw, api.LrW, api.ScW, api.AmoAdd, api.Fence, api.Mret, api.Wfi, api.Csrrw} {
		if seen[op] < 10 {
			t.Errorf("the operation %d retires %d times", op, seen[op])
		}
	}
	for _, n := range []int{api.FetchAligned, api.FetchFault, api.IllegalInstr, api.Breakpoint, api.EnvCall, api.LoadAligned, api.LoadFault, api.StoreAligned, api.StoreFault, api.Interrupt} {
		if traps[n] < 5 {
			t.Errorf("the trap %x comes %d times", n, traps[n])
		}
	}
	if ended < 20 || ended > 280 || drained < 500 {
		t.Errorf("%d programs of 300 end, %d stores are written", ended, drained)
	}
}
