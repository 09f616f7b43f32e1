package alu_test

import (
	"math"
	"math/big"
	"math/rand"
	"testing"

	"oocore/alu"
	"oocore/api"
)

// edges are numbers around the ends of 5, 8, 16 and 32 bits.
var edges = []uint32{0, 1, 2, 3, 7, 30, 31, 32, 33, 63, 64, 127, 128, 255, 256, 0x7fff, 0x8000, 0xffff, 0x10000, 0x55555555, 0xaaaaaaaa, 0x7ffffffe, 0x7fffffff, 0x80000000, 0x80000001, 0xffff7fff, 0xffff8000, 0xffffff7f, 0xffffff80, 0xffffffe0, 0xfffffffe, 0xffffffff}

// eachPair tries the edges with each other, and numbers between them.
func eachPair(try func(a, b uint32)) {
	for _, a := range edges {
		for _, b := range edges {
			try(a, b)
		}
	}
	r := rand.New(rand.NewSource(3))
	for range 3000 {
		a, b := r.Uint32()>>r.Intn(32), r.Uint32()>>r.Intn(32)
		try(a, b)
		try(a, -b)
		try(-a, b)
		try(-a, -b)
	}
}

// anyOps are all operations, and numbers that are none.
func anyOps() []api.Op {
	ops := []api.Op{math.MinInt, -1 << 32, -1<<32 + api.Add, -68, -28, -1, 128 + api.Add, 256 + api.Add, 1<<32 + api.Add, 1 << 62, math.MaxInt}
	for op := api.Illegal; op <= api.Csrrci+40; op++ {
		ops = append(ops, op)
	}
	return ops
}

// number is what a word says, with its sign or without.
func number(a uint32, withSign bool) *big.Int {
	if withSign {
		return big.NewInt(int64(int32(a)))
	}
	return big.NewInt(int64(a))
}

// word is the low 32 bits of a number.
func word(n *big.Int) uint32 {
	return uint32(new(big.Int).Mod(n, big.NewInt(1<<32)).Uint64())
}

// bitByBit joins two words a bit at a time.
func bitByBit(a, b uint32, join func(x, y bool) bool) uint32 {
	sum := uint32(0)
	for k := range 32 {
		if join(a>>k&1 == 1, b>>k&1 == 1) {
			sum += 1 << k
		}
	}
	return sum
}

// turned turns a word step by step, to the left or to the right, with what comes in there.
func turned(a, b uint32, toLeft, in bool) uint32 {
	for range b % 32 {
		if toLeft {
			a = a * 2
		} else if a /= 2; in {
			a += 1 << 31
		}
	}
	return a
}

func one(b bool) uint32 {
	if b {
		return 1
	}
	return 0
}

func high(a, b uint32, aSigned, bSigned bool) uint32 {
	return word(new(big.Int).Rsh(new(big.Int).Mul(number(a, aSigned), number(b, bSigned)), 32))
}

func quotient(a, b uint32, withSign bool) uint32 {
	if b == 0 {
		return 0xffffffff
	}
	return word(new(big.Int).Quo(number(a, withSign), number(b, withSign)))
}

func remainder(a, b uint32, withSign bool) uint32 {
	if b == 0 {
		return a
	}
	return word(new(big.Int).Rem(number(a, withSign), number(b, withSign)))
}

func sum(a, b *big.Int) uint32 { return word(new(big.Int).Add(a, b)) }

func wantExec(op api.Op, a, b uint32) uint32 {
	ua, ub := number(a, false), number(b, false)
	switch op {
	case api.Lui:
		return word(new(big.Int).Mul(ub, big.NewInt(4096)))
	case api.Auipc:
		return sum(ua, new(big.Int).Mul(ub, big.NewInt(4096)))
	case api.Add, api.Addi:
		return sum(ua, ub)
	case api.Sub:
		return word(new(big.Int).Sub(ua, ub))
	case api.Slt, api.Slti:
		return one(number(a, true).Cmp(number(b, true)) < 0)
	case api.Sltu, api.Sltiu:
		return one(ua.Cmp(ub) < 0)
	case api.Xor, api.Xori:
		return bitByBit(a, b, func(x, y bool) bool { return x != y })
	case api.Or, api.Ori:
		return bitByBit(a, b, func(x, y bool) bool { return x || y })
	case api.And, api.Andi:
		return bitByBit(a, b, func(x, y bool) bool { return x && y })
	case api.Sll, api.Slli:
		return turned(a, b, true, false)
	case api.Srl, api.Srli:
		return turned(a, b, false, false)
	case api.Sra, api.Srai:
		return turned(a, b, false, a >= 1<<31)
	case api.Mul:
		return word(new(big.Int).Mul(ua, ub))
	case api.Mulh:
		return high(a, b, true, true)
	case api.Mulhu:
		return high(a, b, false, false)
	case api.Mulhsu:
		return high(a, b, true, false)
	case api.Div, api.Divu:
		return quotient(a, b, op == api.Div)
	case api.Rem, api.Remu:
		return remainder(a, b, op == api.Rem)
	}
	return 0
}

func TestExec(t *testing.T) {
	ops := anyOps()
	eachPair(func(a, b uint32) {
		for _, op := range ops {
			if got, want := alu.Exec(op, a, b), wantExec(op, a, b); got != want {
				t.Fatalf("U1: Exec(%d, %08x, %08x) = %08x, want %08x", op, a, b, got, want)
			}
		}
	})
}

func TestExecEdges(t *testing.T) {
	const low, ones = 0x80000000, 0xffffffff
	for _, c := range []struct {
		op         api.Op
		a, b, want uint32
	}{
		{api.Lui, 99, 0xfffff, 0xfffff000}, {api.Lui, 99, 0x100001, 0x1000}, {api.Auipc, 0xc, 1, 0x100c}, {api.Auipc, 0x2000, 0xfffff, 0x1000},
		{api.Addi, 1, ones, 0}, {api.Add, low, low, 0}, {api.Sub, 0, 1, ones}, {api.Sub, low, 1, 0x7fffffff},
		{api.Slt, low, 0, 1}, {api.Slt, 0, low, 0}, {api.Slt, 5, 5, 0}, {api.Slti, ones, 0, 1}, {api.Sltu, low, 0, 0}, {api.Sltu, 0, low, 1}, {api.Sltu, 5, 5, 0}, {api.Sltiu, 4, ones, 1},
		{api.Sll, 3, 0, 3}, {api.Sll, 3, 31, low}, {api.Sll, 3, 32, 3}, {api.Sll, 3, 33, 6}, {api.Slli, 1, 0xffffffe4, 16},
		{api.Srl, low, 0, low}, {api.Srl, low, 31, 1}, {api.Srl, low, 32, low}, {api.Srli, ones, 63, 1},
		{api.Sra, low, 0, low}, {api.Sra, low, 31, ones}, {api.Sra, low, 32, low}, {api.Srai, low, 36, 0xf8000000}, {api.Sra, 0x7fffffff, 30, 1},
		{api.Mul, ones, ones, 1}, {api.Mul, 0x10000, 0x10000, 0}, {api.Mul, low, ones, low},
		{api.Mulh, low, low, 0x40000000}, {api.Mulh, ones, ones, 0}, {api.Mulh, ones, 1, ones}, {api.Mulh, low, ones, 0},
		{api.Mulhu, low, low, 0x40000000}, {api.Mulhu, ones, ones, 0xfffffffe}, {api.Mulhu, ones, 1, 0}, {api.Mulhu, low, ones, 0x7fffffff},
		{api.Mulhsu, low, low, 0xc0000000}, {api.Mulhsu, ones, ones, ones}, {api.Mulhsu, 1, ones, 0}, {api.Mulhsu, low, ones, low}, {api.Mulhsu, 0x7fffffff, ones, 0x7ffffffe},
		{api.Div, 7, 0, ones}, {api.Div, low, 0, ones}, {api.Div, 0, 0, ones}, {api.Div, low, ones, low}, {api.Div, 0xfffffff9, 2, 0xfffffffd}, {api.Div, 7, 0xfffffffe, 0xfffffffd},
		{api.Rem, 7, 0, 7}, {api.Rem, low, 0, low}, {api.Rem, 0, 0, 0}, {api.Rem, low, ones, 0}, {api.Rem, 0xfffffff9, 2, ones}, {api.Rem, 7, 0xfffffffe, 1},
		{api.Divu, 7, 0, ones}, {api.Divu, low, ones, 0}, {api.Divu, 0xfffffff9, 2, 0x7ffffffc}, {api.Divu, 0, 0, ones},
		{api.Remu, 7, 0, 7}, {api.Remu, low, ones, low}, {api.Remu, 0xfffffff9, 2, 1}, {api.Remu, ones, 0, ones},
		{api.Jal, 5, 6, 0}, {api.Beq, 5, 5, 0}, {api.Lw, 5, 6, 0}, {api.AmoAdd, 5, 6, 0}, {api.Csrrw, 5, 6, 0}, {api.Illegal, 5, 6, 0}, {-1, 5, 6, 0}, {68, 5, 6, 0},
	} {
		if got := alu.Exec(c.op, c.a, c.b); got != c.want {
			t.Errorf("U1: Exec(%d, %08x, %08x) = %08x, want %08x", c.op, c.a, c.b, got, c.want)
		}
	}
}

func TestTaken(t *testing.T) {
	ops := anyOps()
	eachPair(func(a, b uint32) {
		withSign, without := number(a, true).Cmp(number(b, true)), number(a, false).Cmp(number(b, false))
		for _, op := range ops {
			want := false
			switch op {
			case api.Beq:
				want = without == 0
			case api.Bne:
				want = without != 0
			case api.Blt:
				want = withSign < 0
			case api.Bge:
				want = withSign >= 0
			case api.Bltu:
				want = without < 0
			case api.Bgeu:
				want = without >= 0
			}
			if got := alu.Taken(op, a, b); got != want {
				t.Fatalf("U2: Taken(%d, %08x, %08x) = %v", op, a, b, got)
			}
		}
	})
}

func TestSize(t *testing.T) {
	for _, op := range anyOps() {
		want := 0
		switch op {
		case api.Lb, api.Lbu, api.Sb:
			want = 1
		case api.Lh, api.Lhu, api.Sh:
			want = 2
		case api.Lw, api.Sw, api.LrW, api.ScW, api.AmoSwap, api.AmoAdd, api.AmoXor, api.AmoAnd, api.AmoOr, api.AmoMin, api.AmoMax, api.AmoMinu, api.AmoMaxu:
			want = 4
		}
		if got := alu.Size(op); got != want {
			t.Errorf("U3: Size(%d) = %d, want %d", op, got, want)
		}
	}
}

func wantWiden(op api.Op, raw uint32) uint32 {
	byteOf, half := raw%0x100, raw%0x10000
	switch op {
	case api.Lb:
		if byteOf >= 0x80 {
			return 0xffffff00 + byteOf
		}
		return byteOf
	case api.Lh:
		if half >= 0x8000 {
			return 0xffff0000 + half
		}
		return half
	case api.Lbu:
		return byteOf
	case api.Lhu:
		return half
	case api.Lw, api.LrW, api.ScW, api.AmoSwap, api.AmoAdd, api.AmoXor, api.AmoAnd, api.AmoOr, api.AmoMin, api.AmoMax, api.AmoMinu, api.AmoMaxu:
		return raw
	}
	return 0
}

func TestWiden(t *testing.T) {
	ops := anyOps()
	eachPair(func(raw, _ uint32) {
		for _, op := range ops {
			if got, want := alu.Widen(op, raw), wantWiden(op, raw); got != want {
				t.Fatalf("U3: Widen(%d, %08x) = %08x, want %08x", op, raw, got, want)
			}
		}
	})
}

func wantSwap(op api.Op, old, b uint32) uint32 {
	withSign, without := number(old, true).Cmp(number(b, true)), number(old, false).Cmp(number(b, false))
	choose := func(keep bool) uint32 {
		if keep {
			return old
		}
		return b
	}
	switch op {
	case api.AmoSwap, api.ScW:
		return b
	case api.AmoAdd:
		return sum(number(old, false), number(b, false))
	case api.AmoXor:
		return bitByBit(old, b, func(x, y bool) bool { return x != y })
	case api.AmoOr:
		return bitByBit(old, b, func(x, y bool) bool { return x || y })
	case api.AmoAnd:
		return bitByBit(old, b, func(x, y bool) bool { return x && y })
	case api.AmoMin:
		return choose(withSign < 0)
	case api.AmoMax:
		return choose(withSign > 0)
	case api.AmoMinu:
		return choose(without < 0)
	case api.AmoMaxu:
		return choose(without > 0)
	}
	return old
}

func TestSwap(t *testing.T) {
	ops := anyOps()
	eachPair(func(old, b uint32) {
		for _, op := range ops {
			if got, want := alu.Swap(op, old, b), wantSwap(op, old, b); got != want {
				t.Fatalf("U4: Swap(%d, %08x, %08x) = %08x, want %08x", op, old, b, got, want)
			}
		}
	})
}
