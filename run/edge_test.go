package run_test

import (
	"fmt"
	"strings"
	"testing"

	"oocore/api"
)

// What is 0 is not told, but for the bytes of Out.
func TestNoughtsAreNotTold(t *testing.T) {
	none := strings.Repeat("0", 64)
	tells(t, "ebreak", "", "ended after 1 instructions")
	tells(t, "ebreak", none, "ended after 1 instructions")
	tells(t, "addi x0, x0, 5\nli x1, 3\nli x1, 0\nebreak", none, "ended after 4 instructions")
	tells(t, "lui x8, 16\nsw x0, (x8)\nsb x0, 7(x8)\nli x8, 0\nebreak", strings.Repeat("ab", 4)+"000000ff"+none[:48], "ended after 5 instructions")
	tells(t, "lui x9, 32\nsb x0, (x9)\nsb x0, (x9)\nli x9, 0\nebreak", none, "ended after 5 instructions", "out = 0000")
	tells(t, "ebreak", none[:30]+"01", "ended after 1 instructions", "1000c = 01000000")
	tells(t, "ebreak", "10"+none[:30], "ended after 1 instructions", "10000 = 00000010")
}

// All registers, and none is told twice; x0 is never told.
func TestAllRegisters(t *testing.T) {
	text, want := "addi x0, x0, 7\n", []string{"ended after 33 instructions"}
	for k := 1; k < 32; k++ {
		text += fmt.Sprintf("li x%d, %d\n", k, -k)
		want = append(want, fmt.Sprintf("x%d = %08x", k, uint32(-k)))
	}
	tells(t, text+"ebreak", "", want...)
	tells(t, "li x31, 1\nlui x30, 0x80000\nebreak", "", "ended after 3 instructions", "x30 = 80000000", "x31 = 00000001")
}

// Each byte is told in two small digits, also those that are no letters.
func TestAllBytesOfOut(t *testing.T) {
	want := ""
	for k := range 256 {
		want += fmt.Sprintf("%02x", k)
	}
	tells(t, "lui x9, 32\nli x2, 256\na: sb x1, (x9)\naddi x1, x1, 1\nbne x1, x2, a\nli x1, 0\nli x2, 0\nli x9, 0\nebreak", "", "ended after 774 instructions", "out = "+want)
	tells(t, "lui x9, 32\nli x1, 0xc3\nsb x1, (x9)\nli x2, 0xa9\nsb x2, (x9)\nebreak", "", "ended after 6 instructions", "x1 = 000000c3", "x2 = 000000a9", "x9 = 00020000", "out = c3a9")
}

// Each byte of data, in small and in large digits, and in both.
func TestAllBytesOfData(t *testing.T) {
	digits, want := "", []string{"ended after 1 instructions"}
	for k := range 256 {
		digits += fmt.Sprintf("%02x", k)
		if k%4 == 3 {
			want = append(want, fmt.Sprintf("%05x = %02x%02x%02x%02x", api.DataBase+k-3, k, k-1, k-2, k-3))
		}
	}
	tells(t, "ebreak", digits, want...)
	tells(t, "ebreak", strings.ToUpper(digits), want...)
	tells(t, "ebreak", "aAbBcCdDeEfFaBcDEf0123456789AbC0", "ended after 1 instructions", "10000 = ddccbbaa", "10004 = cdabffee", "10008 = 452301ef", "1000c = c0ab8967")
}

// Data of no byte, of 16, and of the most that there may be: the first place behind them is none.
func TestSizesOfData(t *testing.T) {
	for _, size := range []int{0, 16, 32, 4080, 4096} {
		digits := strings.Repeat("0", 2*size)
		last := fmt.Sprintf("lui x8, 16\nli x1, %d\nadd x8, x8, x1\nli x1, 0x%x\n", size, 0xcafe)
		words := len(assemble(t, last))
		tells(t, last+"sw x1, (x8)\nli x1, 0\nebreak", digits, fmt.Sprintf("ended after %d instructions", words+1), "x1 = 0000cafe", fmt.Sprintf("x8 = %08x", api.DataBase+size))
		if size == 0 {
			continue
		}
		tells(t, last+"sw x1, -4(x8)\nli x1, 0\nli x8, 0\nebreak", digits, fmt.Sprintf("ended after %d instructions", words+4), fmt.Sprintf("%05x = 0000cafe", api.DataBase+size-4))
		tells(t, "ebreak", digits[:2*size-8]+"0d0C0b0A", "ended after 1 instructions", fmt.Sprintf("%05x = 0a0b0c0d", api.DataBase+size-4))
	}
	all, want := "", []string{"ended after 1 instructions"}
	for k := range 1024 {
		all += fmt.Sprintf("%02X%02x0080", k%256, k/256)
		want = append(want, fmt.Sprintf("%05x = 8000%02x%02x", 0x10000+4*k, k/256, k%256))
	}
	tells(t, "ebreak", all, want...)
}

// The most words that there may be, and the last of them.
func TestLongestText(t *testing.T) {
	tells(t, strings.Repeat("addi t0,t0,1\n", 4095)+"ebreak", "", "ended after 4096 instructions", "x5 = 00000fff")
	tells(t, "j a\n"+strings.Repeat("\n", 100)+strings.Repeat("nop\n", 4094)+"a: ecall", "", "ended after 2 instructions")
}

// The least that there is a text for: what stands behind the code is a trap, too, and counts.
func TestTraps(t *testing.T) {
	tells(t, "nop", "", "ended after 2 instructions")
	tells(t, "li x1, 8\nlw x2, 1(x1)\nli x3, 1", "", "ended after 2 instructions", "x1 = 00000008")
	// The handler at 0x14 leaves the cause, and goes on; in the end mtvec is 0.
	tells(t, "li x1, 0x14\ncsrrw x0, 0x305, x1\necall\ncsrrw x0, 0x305, x0\nebreak\ncsrrs x5, 0x342, x0\ncsrrs x6, 0x341, x0\naddi x7, x6, 4\ncsrrw x0, 0x341, x7\nmret", "",
		"ended after 10 instructions", "x1 = 00000014", "x5 = 0000000b", "x6 = 00000008", "x7 = 0000000c")
}
