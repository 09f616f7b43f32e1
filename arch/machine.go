package arch

import (
	"oocore/alu"
	"oocore/api"
	"oocore/isa"
)

// Machine is a hart with its data and device.
type Machine struct {
	hart     *Hart
	data     []byte
	out      []byte
	reserved uint32 // an address; 0: nothing is reserved, for there are no data at 0
	line     bool
}

// New makes one.
func New(code []uint32, data []byte) (*Machine, error) {
	hart, err := NewHart(code, len(data), 0)
	if err != nil {
		return nil, err
	}
	return &Machine{hart: hart, data: append([]byte(nil), data...)}, nil
}

// Line sets the interrupt line.
func (m *Machine) Line(on bool) { m.line = on }

// Step does one instruction, or takes an interrupt; false: it is at its end.
func (m *Machine) Step() (api.Retired, bool) {
	if m.hart.Halted() {
		return api.Retired{}, false
	}
	if m.line {
		if r, ok := m.hart.Interrupt(); ok {
			return r, true
		}
	}
	loaded, held := m.serve(m.hart.Ask())
	return m.hart.Do(loaded, held), true
}

// Hart is its hart.
func (m *Machine) Hart() *Hart { return m.hart }

// Data is its data.
func (m *Machine) Data() []byte { return append([]byte(nil), m.data...) }

// Out is what its device was given.
func (m *Machine) Out() string { return string(m.out) }

// serve does what is asked of data or device: what was loaded, did a conditional store hold?
func (m *Machine) serve(q api.Request) (loaded uint32, held bool) {
	switch isa.ClassOf(q.Op) {
	case api.Load:
		return m.read(q), false
	case api.Store:
		m.store(q)
		return 0, false
	case api.Atomic:
		return m.atomic(q)
	}
	return 0, false
}

func (m *Machine) store(q api.Request) {
	if q.Addr >= api.Device {
		m.out = append(m.out, byte(q.Data))
		return
	}
	m.write(q, q.Data)
}

func (m *Machine) atomic(q api.Request) (loaded uint32, held bool) {
	switch q.Op {
	case api.LrW:
		m.reserved = q.Addr
		return m.read(q), false
	case api.ScW:
		held = m.reserved == q.Addr
		m.reserved = 0
		if held {
			m.write(q, q.Data)
		}
		return 0, held
	}
	loaded = m.read(q)
	m.write(q, alu.Swap(q.Op, loaded, q.Data))
	return loaded, false
}

// bytes are those of data that are asked for.
func (m *Machine) bytes(q api.Request) []byte {
	at := int(q.Addr - api.DataBase)
	return m.data[at : at+q.Size]
}

func (m *Machine) read(q api.Request) uint32 {
	value := uint32(0)
	for k, b := range m.bytes(q) {
		value |= uint32(b) << (8 * k)
	}
	return value
}

func (m *Machine) write(q api.Request, value uint32) {
	bytes := m.bytes(q)
	for k := range bytes {
		bytes[k] = byte(value >> (8 * k))
	}
}
