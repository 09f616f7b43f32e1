package run_test

import (
	"fmt"
	"math/rand"
	"strings"
	"testing"
)

// writer writes random texts: most addresses are data, most ways are short and go ahead; traps go to a handler, which goes on behind them, or halt.
type writer struct{ *rand.Rand }

func (w writer) one(of ...string) string { return of[w.Intn(len(of))] }

func (w writer) reg() string { return fmt.Sprintf("x%d", 1+w.Intn(7)) }

func (w writer) place(size int) string {
	return fmt.Sprintf("%d(%s)", w.Intn(32/size)*size, w.one("x8", "x8", "x11", "x12"))
}

func (w writer) line() string {
	switch w.Intn(16) {
	case 0, 1, 2:
		return fmt.Sprintf("%s %s, %s, %s", w.one("add", "sub", "xor", "slt", "sll", "mul", "mulhu", "div", "rem"), w.reg(), w.reg(), w.reg())
	case 3, 4:
		return fmt.Sprintf("addi %s, %s, %d", w.reg(), w.reg(), w.Intn(64)-16)
	case 5, 6:
		k := w.Intn(3)
		return fmt.Sprintf("%s %s, %s", []string{"lb", "lhu", "lw"}[k], w.reg(), w.place(1<<k))
	case 7, 8, 9:
		k := w.Intn(3)
		return fmt.Sprintf("%s %s, %s", []string{"sb", "sh", "sw"}[k], w.reg(), w.place(1<<k))
	case 10:
		return fmt.Sprintf("andi x11, %s, 28\nadd x11, x11, x8", w.reg())
	case 11:
		return fmt.Sprintf("sb %s, %d(x9)", w.reg(), w.Intn(4))
	case 12:
		return fmt.Sprintf("%s %s, %s, %d", w.one("beq", "bne", "blt", "bgeu"), w.reg(), w.reg(), 4+4*w.Intn(4))
	case 13:
		return fmt.Sprintf("%s %s, %s, (%s)", w.one("amoadd.w", "amoswap.w", "amomax.w", "sc.w"), w.reg(), w.reg(), w.one("x8", "x11", "x12"))
	case 14:
		return w.one("fence 255", "wfi", "lr.w x3, (x8)", "csrrs x4, 0xc02, x0", "csrrw x5, 0x340, x6", "csrrsi x0, 0x300, 8", "csrrs x7, 0x342, x0")
	}
	return w.one("ecall", ".word 0", "lw x3, 1(x8)", "sw x3, (x0)", "csrrw x0, 0xc02, x1", "jal x1, 6", "nop", "nop", "nop")
}

// text has its handler at 4, and does its body some times.
func (w writer) text() string {
	lines := []string{"j body", "csrrs x14, 0x341, x0", "addi x14, x14, 4", "csrrw x0, 0x341, x14", "mret", "body: lui x8, 16", "lui x9, 32", "mv x11, x8", "addi x12, x8, 16", "lui x5, 1", "srli x5, x5, 1", "csrrw x0, 0x304, x5", "csrrsi x0, 0x300, 8", "li x1, 7", "li x2, -3"}
	if w.Intn(4) > 0 {
		lines = append(lines, "li x15, 4", "csrrw x0, 0x305, x15")
	}
	lines = append(lines, fmt.Sprintf("li x16, %d", 1+w.Intn(6)), "again: nop")
	for range 5 + w.Intn(30) {
		lines = append(lines, w.line())
	}
	lines = append(lines, "nop", "nop", "nop", "addi x16, x16, -1", "bnez x16, again", "csrrw x0, 0x305, x0")
	return strings.Join(append(lines, w.one("ebreak", "ecall", "nop", "lw x1, 3(x8)")), "\n")
}

func TestRandomTexts(t *testing.T) {
	ended, cut := 0, 0
	for seed := range int64(700) {
		w := writer{rand.New(rand.NewSource(seed))}
		text, digits, c := w.text(), anyData(w.Rand, 64+16*w.Intn(4)), anyMake(w.Rand)
		if told := follows(t, text, digits, c, 5000); strings.HasPrefix(told, "ended") && strings.Contains(told, "\nx8 = 00010000\n") {
			ended++
		}
		if told := follows(t, text, digits, c, w.Intn(150)); strings.HasPrefix(told, "cut off") && strings.Contains(told, "\nout = ") {
			cut++
		}
	}
	if ended < 500 || cut < 50 {
		t.Errorf("the texts are too much alike: %d end, %d are cut off behind bytes for the device", ended, cut)
	}
}
