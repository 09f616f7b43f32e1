package arch_test

import (
	"oocore/api"
	"oocore/isa"
)

// model is a second reading of the chapter, in another shape than the program: one function a promise, memory byte by byte, control registers by their numbers. Of the program it takes only how words are read.
type model struct {
	code     []uint32
	mem      map[uint32]byte
	x        [32]uint32
	csr      map[int]uint32
	pc       uint32
	halted   bool
	line     bool
	out      string
	reserved map[uint32]bool
}

func newModel(code []uint32, data []byte, number uint32) *model {
	m := &model{code: code, mem: map[uint32]byte{}, reserved: map[uint32]bool{}}
	m.csr = map[int]uint32{0x300: 0, 0x304: 0, 0x305: 0, 0x340: 0, 0x341: 0, 0x342: 0, 0x343: 0, 0xc02: 0, 0xf14: number}
	for k, b := range data {
		m.mem[0x10000+uint32(k)] = b
	}
	return m
}

// stray is a trap: its cause and Tval.
type stray struct {
	cause int
	tval  uint32
}

func (m *model) take(word uint32, s stray) api.Retired {
	r := api.Retired{PC: m.pc, Word: word, Cause: s.cause, Tval: s.tval}
	if m.csr[0x305] == 0 {
		m.halted = true
		r.Next = m.pc
		return r
	}
	m.csr[0x341], m.csr[0x342], m.csr[0x343] = m.pc, uint32(s.cause), s.tval
	if m.csr[0x300]>>3&1 == 1 {
		m.csr[0x300] = 0x80
	} else {
		m.csr[0x300] = 0
	}
	m.pc = m.csr[0x305]
	r.Next = m.pc
	return r
}

func (m *model) step() (api.Retired, bool) {
	if m.halted {
		return api.Retired{}, false
	}
	if m.line && m.csr[0x300]>>3&1 == 1 && m.csr[0x304] != 0 {
		return m.take(0, stray{0x8000000b, 0}), true
	}
	if int(m.pc/4) >= len(m.code) {
		return m.take(0, stray{1, m.pc}), true
	}
	word := m.code[m.pc/4]
	i, ok := isa.Decode(word)
	if !ok {
		return m.take(word, stray{2, word}), true
	}
	value, next, bad := m.do(i, word)
	if bad != nil {
		return m.take(word, *bad), true
	}
	r := api.Retired{PC: m.pc, Word: word, Cause: -1, Next: next}
	if i.Rd != 0 {
		r.Rd, r.Value = i.Rd, value
		m.x[i.Rd] = value
	}
	m.pc = next
	m.csr[0xc02]++
	return r, true
}

// do tells what Rd becomes, and where the next instruction stands, or the trap; it leaves registers to step.
func (m *model) do(i api.Instr, word uint32) (value, next uint32, bad *stray) {
	a, b, n := m.x[i.Rs1], m.x[i.Rs2], uint32(i.Imm)
	next = m.pc + 4
	to, jumps := m.pc+n, false
	switch i.Op {
	case api.Lui:
		return n << 12, next, nil
	case api.Auipc:
		return m.pc + n<<12, next, nil
	case api.Jal:
		jumps = true
	case api.Jalr:
		to, jumps = (a+n)>>1<<1, true
	case api.Beq:
		jumps = a == b
	case api.Bne:
		jumps = a != b
	case api.Blt:
		jumps = int32(a) < int32(b)
	case api.Bge:
		jumps = int32(a) >= int32(b)
	case api.Bltu:
		jumps = a < b
	case api.Bgeu:
		jumps = a >= b
	case api.Ecall:
		return 0, 0, &stray{11, 0}
	case api.Ebreak:
		return 0, 0, &stray{3, m.pc}
	case api.Mret:
		if next = m.csr[0x341]; m.csr[0x300]>>7&1 == 1 {
			m.csr[0x300] = 0x88
		} else {
			m.csr[0x300] = 0x80
		}
		return 0, next, nil
	case api.Fence, api.Wfi:
		return 0, next, nil
	}
	switch {
	case jumps && to%4 != 0:
		return 0, 0, &stray{0, to}
	case jumps:
		return next, to, nil
	case i.Op >= api.Lb && i.Op <= api.Sw:
		value, bad = m.plainAccess(i, a+n, b)
	case i.Op >= api.LrW && i.Op <= api.AmoMaxu:
		value, bad = m.atomicAccess(i.Op, a, b)
	case i.Op >= api.Csrrw:
		value, bad = m.controlAccess(i, a, word)
	case i.Op >= api.Addi && i.Op <= api.Srai:
		value = compute(i.Op, a, n)
	default:
		value = compute(i.Op, a, b)
	}
	return value, next, bad
}

func compute(op api.Op, a, b uint32) uint32 {
	x, y := int64(int32(a)), int64(int32(b))
	switch op {
	case api.Add, api.Addi:
		return a + b
	case api.Sub:
		return a - b
	case api.Slt, api.Slti:
		return uint32(uint64(x-y) >> 63)
	case api.Sltu, api.Sltiu:
		return uint32((uint64(a) - uint64(b)) >> 63)
	case api.Xor, api.Xori:
		return (a | b) - (a & b)
	case api.Or, api.Ori:
		return a + b - (a & b)
	case api.And, api.Andi:
		return ^(^a | ^b)
	case api.Sll, api.Slli:
		return a << (b % 32)
	case api.Srl, api.Srli:
		return a >> (b % 32)
	case api.Sra, api.Srai:
		return uint32(int32(a) >> (b % 32))
	case api.Mul:
		return uint32(x * y)
	case api.Mulh:
		return uint32(uint64(x*y) >> 32)
	case api.Mulhsu:
		return uint32(uint64(x*int64(b)) >> 32)
	case api.Mulhu:
		return uint32(uint64(a) * uint64(b) >> 32)
	}
	return divide(op, a, b)
}

func divide(op api.Op, a, b uint32) uint32 {
	x, y := int64(a), int64(b)
	if op == api.Div || op == api.Rem {
		x, y = int64(int32(a)), int64(int32(b))
	}
	quotient, rest := int64(-1), x
	if y != 0 {
		quotient, rest = x/y, x%y
	}
	if op == api.Div || op == api.Divu {
		return uint32(quotient)
	}
	return uint32(rest)
}

func (m *model) has(at uint32, size int) bool {
	for k := range uint32(size) {
		if _, ok := m.mem[at+k]; !ok {
			return false
		}
	}
	return true
}

func (m *model) get(at uint32, size int) (value uint32) {
	for k := size - 1; k >= 0; k-- {
		value = value<<8 + uint32(m.mem[at+uint32(k)])
	}
	return value
}

func (m *model) put(at uint32, size int, value uint32) {
	for k := range uint32(size) {
		m.mem[at+k] = byte(value)
		value >>= 8
	}
}

func (m *model) plainAccess(i api.Instr, at, b uint32) (uint32, *stray) {
	size := map[api.Op]int{api.Lb: 1, api.Lbu: 1, api.Sb: 1, api.Lh: 2, api.Lhu: 2, api.Sh: 2, api.Lw: 4, api.Sw: 4}[i.Op]
	stores := i.Op >= api.Sb
	device := stores && at >= 0x20000 && uint64(at)+uint64(size) <= 0x20004
	switch {
	case at%uint32(size) != 0 && stores:
		return 0, &stray{6, at}
	case at%uint32(size) != 0:
		return 0, &stray{4, at}
	case device:
		m.out += string([]byte{byte(b)})
		return 0, nil
	case !m.has(at, size) && stores:
		return 0, &stray{7, at}
	case !m.has(at, size):
		return 0, &stray{5, at}
	case stores:
		m.put(at, size, b)
		return 0, nil
	}
	value := m.get(at, size)
	switch i.Op {
	case api.Lb:
		value = uint32(int32(value<<24) >> 24)
	case api.Lh:
		value = uint32(int32(value<<16) >> 16)
	}
	return value, nil
}

func (m *model) atomicAccess(op api.Op, at, b uint32) (uint32, *stray) {
	causes := [2]int{6, 7}
	if op == api.LrW {
		causes = [2]int{4, 5}
	}
	if at%4 != 0 {
		return 0, &stray{causes[0], at}
	}
	if !m.has(at, 4) {
		return 0, &stray{causes[1], at}
	}
	old := m.get(at, 4)
	fresh := old
	switch op {
	case api.LrW:
		m.reserved = map[uint32]bool{at: true}
	case api.ScW:
		held := m.reserved[at]
		m.reserved = nil
		if held {
			m.put(at, 4, b)
			return 0, nil
		}
		return 1, nil
	case api.AmoSwap:
		fresh = b
	case api.AmoAdd:
		fresh = old + b
	case api.AmoXor:
		fresh = old ^ b
	case api.AmoAnd:
		fresh = old & b
	case api.AmoOr:
		fresh = old | b
	case api.AmoMin:
		fresh = uint32(min(int32(old), int32(b)))
	case api.AmoMax:
		fresh = uint32(max(int32(old), int32(b)))
	case api.AmoMinu:
		fresh = min(old, b)
	case api.AmoMaxu:
		fresh = max(old, b)
	}
	m.put(at, 4, fresh)
	return old, nil
}

// masks are the bits of control registers that can be written.
var masks = map[int]uint32{0x300: 0x88, 0x304: 0x800, 0x305: 0xfffffffc, 0x340: 0xffffffff, 0x341: 0xfffffffc, 0x342: 0xffffffff, 0x343: 0xffffffff}

func (m *model) controlAccess(i api.Instr, a, word uint32) (uint32, *stray) {
	old, there := m.csr[i.Imm]
	mask, open := masks[i.Imm]
	writes := i.Op == api.Csrrw || i.Op == api.Csrrwi || i.Rs1 > 0
	if !there || writes && !open {
		return 0, &stray{2, word}
	}
	if i.Op >= api.Csrrwi {
		a = uint32(i.Rs1)
	}
	switch i.Op {
	case api.Csrrw, api.Csrrwi:
		m.csr[i.Imm] = a & mask
	case api.Csrrs, api.Csrrsi:
		m.csr[i.Imm] |= a & mask
	case api.Csrrc, api.Csrrci:
		m.csr[i.Imm] &^= a
	}
	return old, nil
}
