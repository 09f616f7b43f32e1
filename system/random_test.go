package system_test

import (
	"fmt"
	"math/rand"
	"strings"
	"testing"

	"oocore/api"
	"oocore/isa"
)

// writer writes random programs: both cores' addresses lie in a few lines, and are known late or early; traps go to a handler, which goes on behind them, or to nowhere.
type writer struct{ *rand.Rand }

func (w writer) one(of ...string) string { return of[w.Intn(len(of))] }

func (w writer) reg() string { return fmt.Sprintf("x%d", 1+w.Intn(7)) }

func (w writer) base() string { return w.one("x8", "x8", "x8", "x11", "x11", "x12", "x13") }

// offset is seldom one that traps, and often one of few.
func (w writer) offset(size int) int {
	switch {
	case w.Intn(60) == 0:
		return w.Intn(40) - 8
	case w.Intn(2) == 0:
		return w.Intn(8/size) * size
	}
	return w.Intn(64/size) * size
}

func (w writer) compute() string {
	switch w.Intn(4) {
	case 0:
		return fmt.Sprintf("%s %s, %s, %s", w.one("mul", "mul", "mulhu", "div", "rem", "divu"), w.reg(), w.reg(), w.reg())
	case 1, 2:
		return fmt.Sprintf("%s %s, %s, %d", w.one("addi", "addi", "xori", "andi", "slti"), w.reg(), w.reg(), w.Intn(64)-16)
	}
	return fmt.Sprintf("%s %s, %s, %s", w.one("add", "sub", "xor", "or", "and", "slt", "sll", "srl"), w.reg(), w.reg(), w.reg())
}

// late computes an address of data, of registers that may take long.
func (w writer) late() string {
	r := w.one("x11", "x12")
	first := w.one("andi "+r+", "+w.reg()+", 28", "mul "+r+", "+w.reg()+", "+w.reg()+"\nandi "+r+", "+r+", 12")
	return first + "\nadd " + r + ", " + r + ", x8"
}

func (w writer) memory() string {
	k := w.Intn(3)
	size := 1 << k
	if w.Intn(5) < 2 {
		return fmt.Sprintf("%s %s, %d(%s)", []string{"sb", "sh", "sw"}[k], w.reg(), w.offset(size), w.base())
	}
	return fmt.Sprintf("%s %s, %d(%s)", []string{w.one("lb", "lbu"), w.one("lh", "lhu"), "lw"}[k], w.reg(), w.offset(size), w.base())
}

func (w writer) transfer() string {
	switch w.Intn(8) {
	case 0:
		return fmt.Sprintf("jal x1, %d", 4+4*w.Intn(3))
	case 1:
		return "jalr x0, (x1)"
	case 2:
		return fmt.Sprintf("auipc x5, 0\njalr %s, %d(x5)", w.one("x0", "x1", "x6"), 8+4*w.Intn(3))
	case 3:
		return fmt.Sprintf("%s %s, %s, %d", w.one("beq", "bne", "blt"), w.reg(), w.reg(), -4*w.Intn(4))
	}
	return fmt.Sprintf("%s %s, %s, %d", w.one("beq", "bne", "blt", "bgeu", "bltu", "bge"), w.reg(), w.reg(), 4+4*w.Intn(4))
}

func (w writer) atomic() string {
	switch w.Intn(4) {
	case 0:
		return fmt.Sprintf("lr.w %s, (%s)", w.reg(), w.base())
	case 1:
		return fmt.Sprintf("sc.w %s, %s, (%s)", w.reg(), w.reg(), w.base())
	case 2:
		base := w.base()
		between := w.one("", w.compute()+"\n", w.memory()+"\n", w.compute()+"\n"+w.compute()+"\n")
		return fmt.Sprintf("lr.w %s, (%s)\n%ssc.w %s, %s, (%s)", w.reg(), base, between, w.reg(), w.reg(), base)
	}
	return fmt.Sprintf("%s %s, %s, (%s)", w.one("amoadd.w", "amoswap.w", "amomax.w", "amoxor.w", "amoand.w", "amominu.w"), w.reg(), w.reg(), w.base())
}

func (w writer) special() string {
	switch w.Intn(9) {
	case 0, 1:
		return "fence 255"
	case 2:
		return fmt.Sprintf("sb %s, %d(x9)", w.reg(), w.Intn(4))
	case 3:
		return fmt.Sprintf("csrrs %s, %s, x0", w.reg(), w.one("0xc02", "0x341", "0x342", "0x300", "0xf14"))
	case 4:
		return fmt.Sprintf("csrrw %s, 0x340, %s", w.reg(), w.reg())
	case 5:
		return w.one("csrrsi x0, 0x300, 8", "csrrci x0, 0x300, 8", "csrrwi x0, 0x300, 8")
	case 6:
		return w.one("wfi", "ecall", ".word 0", "csrrw x0, 0xc02, x1", "jal x1, 6", "beq x0, x0, 2", "lw x3, 1(x8)", "lw x3, 0(x0)", "sw x3, 2(x9)", "amoadd.w x3, x3, (x9)", "csrrs x1, 0x123, x0", "jalr x1, (x8)")
	case 7:
		return "lui x8, 16"
	}
	return "nop"
}

// program has its handler at 4; behind it stands a call, which is taken in, and thrown away.
func (w writer) program() string {
	lines := []string{"j body", "csrrs x14, 0x341, x0", "addi x14, x14, 4", "csrrw x0, 0x341, x14", "mret", "call body", "body: lui x8, 16", "lui x9, 32", "mv x11, x8", "addi x12, x8, 16", "addi x13, x8, 32", "li x15, 4", "lui x5, 1", "srli x5, x5, 1", "csrrw x0, 0x304, x5", "li x1, 7", "li x2, -3"}
	if w.Intn(5) > 0 {
		lines = append(lines, "csrrw x0, 0x305, x15")
	}
	if w.Intn(4) > 0 {
		lines = append(lines, "csrrwi x0, 0x300, 8")
	}
	lines = append(lines, "again: nop")
	kinds := []func() string{w.compute, w.late, w.memory, w.memory, w.memory, w.memory, w.transfer, w.atomic, w.special}
	if w.Intn(3) == 0 {
		kinds = append(kinds, w.memory, w.memory, w.memory, w.memory)
	}
	for range 5 + w.Intn(40) {
		lines = append(lines, kinds[w.Intn(len(kinds))]())
	}
	return strings.Join(append(lines, w.one("j again", "j again", "csrrw x0, 0x305, x0\nebreak", "csrrw x0, 0x305, x0", "nop")), "\n")
}

// turns are cycles at which an interrupt line turns: some twice, some that never come, in no order.
func (w writer) turns() (list []int) {
	for range w.Intn(6) {
		n := w.Intn(300)
		list = append(list, n, []int{n, -n, n + 1, n + 2, n + 20, 1000000}[w.Intn(6)])
	}
	w.Shuffle(len(list), func(a, b int) { list[a], list[b] = list[b], list[a] })
	return list
}

// input is two programs, seldom the same one, with data of few lines.
func (w writer) input(t *testing.T) (string, input) {
	t.Helper()
	a, b := w.program(), w.program()
	if w.Intn(4) == 0 {
		b = a
	}
	data := make([]byte, 64+16*w.Intn(4))
	w.Read(data)
	in := input{[][]uint32{assemble(t, a), assemble(t, b)}, data, anyPair(w.Rand), [][]int{w.turns(), w.turns()}, 50 + w.Intn(600)}
	return fmt.Sprintf("%q and %q on %+v", a, b, in.cs), in
}

// Random programs on two cores of any make, each held against all promises.
func TestRandomPrograms(t *testing.T) {
	for seed := range int64(1500) {
		name, in := writer{rand.New(rand.NewSource(seed))}.input(t)
		checked(t, fmt.Sprintf("seed %d: %s", seed, name), in)
	}
}

// tally counts what random programs come to.
type tally struct {
	ops                map[api.Op]int
	traps              map[int]int
	held, failed       int // conditional stores
	ended, drained     int
	spoiled, interrupt [2]int // of each core
}

func (c *tally) add(x api.Report) {
	if x.Ended {
		c.ended++
	}
	for k, e := range x.Events {
		switch {
		case e.Kind == api.EvDrain:
			c.drained++
		case e.Kind == api.EvSquash && (k == 0 || x.Events[k-1].Cycle != e.Cycle || x.Events[k-1].Core != e.Core):
			c.spoiled[e.Core]++ // the first of its core in the cycle: a line has left
		case e.Kind == api.EvRetire && e.Seq < 0:
			c.interrupt[e.Core]++
		case e.Kind == api.EvRetire && e.What.Cause != api.None:
			c.traps[e.What.Cause]++
		case e.Kind == api.EvRetire:
			c.retired(e.What)
		}
	}
}

func (c *tally) retired(what api.Retired) {
	i, _ := isa.Decode(what.Word)
	c.ops[i.Op]++
	if i.Op == api.ScW && i.Rd > 0 {
		if what.Value == 0 {
			c.held++
		} else {
			c.failed++
		}
	}
}

// The random programs come to all that is promised: else they would show nothing.
func TestRandomProgramsAreOfAllKinds(t *testing.T) {
	c := tally{ops: map[api.Op]int{}, traps: map[int]int{}}
	for seed := range int64(400) {
		_, in := writer{rand.New(rand.NewSource(seed))}.input(t)
		x, _ := in.run()
		c.add(x)
	}
	for _, op := range []api.Op{api.Mul, api.Div, api.Jal, api.Jalr, api.Beq, api.Lb, api.Lw, api.Sb, api.Sw, api.LrW, api.ScW, api.AmoAdd, api.Fence, api.Mret, api.Wfi, api.Csrrw} {
		if c.ops[op] < 10 {
			t.Errorf("the operation %d retires %d times", op, c.ops[op])
		}
	}
	for _, n := range []int{api.FetchAligned, api.FetchFault, api.IllegalInstr, api.Breakpoint, api.EnvCall, api.LoadAligned, api.LoadFault, api.StoreAligned, api.StoreFault} {
		if c.traps[n] < 5 {
			t.Errorf("the trap %x comes %d times", n, c.traps[n])
		}
	}
	if c.ended < 20 || c.ended > 380 || c.drained < 500 || c.held < 50 || c.failed < 50 || min(c.spoiled[0], c.spoiled[1]) < 100 || min(c.interrupt[0], c.interrupt[1]) < 100 {
		t.Errorf("of 400: %+v", c)
	}
}
