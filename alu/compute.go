package alu

const (
	upperShift = 12
	turnMask   = 31 // of a number that says how far to turn
	allOnes    = ^uint32(0)
)

// signed is wide enough for all products, and for the quotient of -2^31 by -1.
func signed(a uint32) int64 { return int64(int32(a)) }

func bit(b bool) uint32 {
	if b {
		return 1
	}
	return 0
}

func same(a, b uint32) bool { return a == b }

func less(a, b uint32) bool { return signed(a) < signed(b) }

func below(a, b uint32) bool { return a < b }

func second(_, b uint32) uint32 { return b }

func upper(_, b uint32) uint32 { return b << upperShift }

func addUpper(a, b uint32) uint32 { return a + b<<upperShift }

func add(a, b uint32) uint32 { return a + b }

func sub(a, b uint32) uint32 { return a - b }

func setLess(a, b uint32) uint32 { return bit(less(a, b)) }

func setBelow(a, b uint32) uint32 { return bit(below(a, b)) }

func xor(a, b uint32) uint32 { return a ^ b }

func or(a, b uint32) uint32 { return a | b }

func and(a, b uint32) uint32 { return a & b }

func left(a, b uint32) uint32 { return a << (b & turnMask) }

func right(a, b uint32) uint32 { return a >> (b & turnMask) }

func rightSigned(a, b uint32) uint32 { return uint32(signed(a) >> (b & turnMask)) }

func mul(a, b uint32) uint32 { return a * b }

func mulHigh(a, b uint32) uint32 { return uint32(signed(a) * signed(b) >> 32) }

func mulHighMixed(a, b uint32) uint32 { return uint32(signed(a) * int64(b) >> 32) }

func mulHighUnsigned(a, b uint32) uint32 { return uint32(uint64(a) * uint64(b) >> 32) }

func div(a, b uint32) uint32 {
	if b == 0 {
		return allOnes
	}
	return uint32(signed(a) / signed(b))
}

func divUnsigned(a, b uint32) uint32 {
	if b == 0 {
		return allOnes
	}
	return a / b
}

func rem(a, b uint32) uint32 {
	if b == 0 {
		return a
	}
	return uint32(signed(a) % signed(b))
}

func remUnsigned(a, b uint32) uint32 {
	if b == 0 {
		return a
	}
	return a % b
}

func lesser(a, b uint32) uint32 {
	if less(a, b) {
		return a
	}
	return b
}

func greater(a, b uint32) uint32 {
	if less(a, b) {
		return b
	}
	return a
}
