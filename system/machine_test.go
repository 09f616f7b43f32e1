package system_test

import (
	"slices"
	"testing"

	"oocore/alu"
	"oocore/api"
	"oocore/arch"
	"oocore/isa"
)

// machine is the one that S2 tells: a hart and a buffer a core, one data and one device. It knows nothing of cycles, but for interrupts.
type machine struct {
	t     *testing.T
	name  string
	harts []side
	data  []byte
	out   string
}

// side is a core's.
type side struct {
	*arch.Hart
	buffer   []api.Request
	reserved []uint32 // the addresses of a word's bytes, or none
	lines    []int
	seen     int // the cycle of the last interrupt, in which nothing else retires
	retired  int // the cycle in which the last instruction retired
}

// replay holds EvRetire and EvDrain, in their order, and what comes in the end, against the machine.
func replay(t *testing.T, name string, in input, x api.Report) {
	t.Helper()
	m := &machine{t: t, name: name, data: slices.Clone(in.data)}
	for k, code := range in.codes {
		h, err := arch.NewHart(code, len(in.data), k)
		if err != nil {
			t.Fatal(err)
		}
		m.harts = append(m.harts, side{Hart: h, lines: in.lines[k], seen: -1, retired: -1})
	}
	for _, e := range x.Events {
		switch {
		case e.Core < 0 || e.Core >= len(m.harts):
			t.Fatalf("S1: %s: %+v: there is no such core", name, e)
		case e.Kind == api.EvRetire && e.Seq < 0:
			m.interrupt(e)
		case e.Kind == api.EvRetire:
			m.retire(e)
		case e.Kind == api.EvDrain:
			m.drain(e)
		}
	}
	m.compare(x)
}

func (m *machine) compare(x api.Report) {
	m.t.Helper()
	ended := true
	for k := range m.harts {
		s := &m.harts[k]
		ended = ended && s.Halted() && len(s.buffer) == 0
		for n, v := range x.Regs[k] {
			if v != s.Reg(n) {
				m.t.Fatalf("S2: %s: core %d, register %d is %x, want %x", m.name, k, n, v, s.Reg(n))
			}
		}
	}
	if x.Ended != ended || x.Out != m.out || !slices.Equal(x.Data, m.data) || len(x.Regs) != len(m.harts) {
		m.t.Fatalf("S2: %s: ended %v, out %q, data %x, want %v, %q, %x", m.name, x.Ended, x.Out, x.Data, ended, m.out, m.data)
	}
}

// isOn tells whether a core's line is on in a cycle.
func (s *side) isOn(cycle int) (on bool) {
	for _, n := range s.lines {
		on = on != (0 <= n && n <= cycle)
	}
	return on
}

// isOpen tells whether the hart may take an interrupt.
func (s *side) isOpen() bool {
	status, _ := s.Csr(api.Mstatus)
	enabled, _ := s.Csr(api.Mie)
	return status&8 != 0 && enabled != 0 && !s.Halted()
}

func (m *machine) interrupt(e api.Event) {
	m.t.Helper()
	s := &m.harts[e.Core]
	want, ok := s.Interrupt()
	if !ok || !s.isOn(e.Cycle) || e.What != want || e.PC != want.PC || s.seen == e.Cycle {
		m.t.Fatalf("S2: %s: %+v, want %+v, %v; the line is on: %v", m.name, e, want, ok, s.isOn(e.Cycle))
	}
	s.seen = e.Cycle
}

func (m *machine) retire(e api.Event) {
	m.t.Helper()
	s := &m.harts[e.Core]
	if s.Halted() || s.seen == e.Cycle {
		m.t.Fatalf("S2: %s: %+v behind a halt, or an interrupt", m.name, e)
	}
	if s.retired != e.Cycle && s.isOn(e.Cycle) && s.isOpen() {
		m.t.Fatalf("S2: %s: %+v in place of an interrupt", m.name, e)
	}
	s.retired = e.Cycle
	q := s.Ask()
	i, _ := isa.Decode(e.What.Word)
	if len(s.buffer) > 0 && (i.Op == api.Fence || isa.ClassOf(q.Op) == api.Atomic) {
		m.t.Fatalf("S2: %s: %+v while %d stores wait", m.name, e, len(s.buffer))
	}
	loaded, held := m.serve(e.Core, q)
	if want := s.Do(loaded, held); e.What != want || e.PC != want.PC {
		m.t.Fatalf("S2: %s: %+v, want %+v", m.name, e, want)
	}
}

// serve is what a hart's memory is: data, behind its buffer.
func (m *machine) serve(core int, q api.Request) (loaded uint32, held bool) {
	s := &m.harts[core]
	switch isa.ClassOf(q.Op) {
	case api.Load:
		return m.read(q, s.buffer), false
	case api.Store:
		s.buffer = append(s.buffer, q)
	case api.Atomic:
		switch loaded = m.read(q, nil); q.Op {
		case api.LrW:
			s.reserved = []uint32{q.Addr, q.Addr + 1, q.Addr + 2, q.Addr + 3}
		case api.ScW:
			held = slices.Contains(s.reserved, q.Addr)
			s.reserved = nil
			if held {
				m.write(core, q, q.Data)
			}
		default:
			m.write(core, q, alu.Swap(q.Op, loaded, q.Data))
		}
	}
	return loaded, held
}

func (m *machine) read(q api.Request, buffer []api.Request) (value uint32) {
	for k := range q.Size {
		at := q.Addr + uint32(k)
		b := m.data[at-api.DataBase]
		for _, s := range buffer {
			if at >= s.Addr && at < s.Addr+uint32(s.Size) {
				b = byte(s.Data >> (8 * (at - s.Addr)))
			}
		}
		value |= uint32(b) << (8 * k)
	}
	return value
}

// write takes the word from the other side, if it is reserved there.
func (m *machine) write(core int, q api.Request, value uint32) {
	for k := range q.Size {
		at := q.Addr + uint32(k)
		m.data[at-api.DataBase] = byte(value >> (8 * k))
		for n := range m.harts {
			if n != core && slices.Contains(m.harts[n].reserved, at) {
				m.harts[n].reserved = nil
			}
		}
	}
}

func (m *machine) drain(e api.Event) {
	m.t.Helper()
	s := &m.harts[e.Core]
	if len(s.buffer) == 0 || e.Seq != 0 || e.PC != 0 {
		m.t.Fatalf("S2: %s: %+v with %d stores in the buffer", m.name, e, len(s.buffer))
	}
	q := s.buffer[0]
	s.buffer = s.buffer[1:]
	if q.Addr >= api.Device {
		m.out += string([]byte{byte(q.Data)})
	} else {
		m.write(e.Core, q, q.Data)
	}
}
