// Package flow: how instructions flow through cores on one bus, which package core runs one of: see doc/11-core.md. It stands beside the layers, since their faces have no core that goes on by single cycles.
package flow

import (
	"oocore/api"
	"oocore/arch"
)

// Program is what a core runs, how the core is made, and the cycles at which its interrupt line turns.
type Program struct {
	Code  []uint32
	Made  api.Config
	Lines []int
}

// Machine is cores on one bus.
type Machine struct {
	board *board
	cores []*core
}

// New makes one: a core for each program, and the data. The images of all cores are looked at ahead of how they are made.
func New(programs []Program, data []byte) (*Machine, error) {
	var harts []*arch.Hart
	for number, p := range programs {
		h, err := arch.NewHart(p.Code, len(data), number)
		if err != nil {
			return nil, err
		}
		harts = append(harts, h)
	}
	b, err := newBoard(programs, data)
	if err != nil {
		return nil, err
	}
	m := &Machine{board: b}
	for number, p := range programs {
		c, err := newCore(p, number, harts[number], b)
		if err != nil {
			return nil, err
		}
		m.cores = append(m.cores, c)
	}
	return m, nil
}

// Run goes on until all cores have ended, or so many cycles are over.
func (m *Machine) Run(cycles int) api.Report {
	for m.board.cycle < cycles && !m.hasEnded() {
		m.step()
	}
	return m.report()
}

func (m *Machine) step() {
	snoops := m.board.Tick()
	for _, c := range m.cores {
		c.step(snoops)
	}
	m.board.cycle++
}

func (m *Machine) hasEnded() bool {
	for _, c := range m.cores {
		if !c.hasEnded() {
			return false
		}
	}
	return true
}

func (m *Machine) report() api.Report {
	r := api.Report{
		Ended:  m.hasEnded(),
		Cycles: m.board.cycle,
		Events: m.board.whole(),
		Out:    string(m.board.out),
		Data:   m.board.Data(),
	}
	for _, c := range m.cores {
		r.Regs = append(r.Regs, c.registers())
	}
	return r
}
