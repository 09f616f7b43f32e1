// Package flow: how instructions flow through cores on one bus, of which package core runs one, and package system one or two: see doc/11-core.md and doc/12-system.md. It stands beside the layers, since their faces have no core that goes on by single cycles.
package flow

import (
	"oocore/api"
	"oocore/arch"
)

// Program is what a core runs, how the core is made, and the cycles at which its interrupt line turns.
type Program struct {
	Code  []uint32
	Made  api.Config
	Lines []int
}

// Run runs one program or two, each on a core of its own, until all have ended or so many cycles are over.
func Run(programs []Program, data []byte, cycles int) (api.Report, error) {
	if !isWithin(cycles, 0, api.MaxCycles) {
		return api.Report{}, api.ErrRange
	}
	m, err := newMachine(programs, data)
	if err != nil {
		return api.Report{}, err
	}
	for m.board.cycle < cycles && !m.hasEnded() {
		m.step()
	}
	return m.report(), nil
}

// machine is cores on one bus.
type machine struct {
	board *board
	cores []*core
}

// newMachine makes one: a core for each program, and the data. The images of all cores are looked at ahead of how they are made.
func newMachine(programs []Program, data []byte) (*machine, error) {
	var harts []*arch.Hart
	for number, p := range programs {
		h, err := arch.NewHart(p.Code, len(data), number)
		if err != nil {
			return nil, err
		}
		harts = append(harts, h)
	}
	b, err := newBoard(programs, data)
	if err != nil {
		return nil, err
	}
	m := &machine{board: b}
	for number, p := range programs {
		c, err := newCore(p, number, harts[number], b)
		if err != nil {
			return nil, err
		}
		m.cores = append(m.cores, c)
	}
	return m, nil
}

func (m *machine) step() {
	snoops := m.board.Tick()
	for _, c := range m.cores {
		c.step(snoops)
	}
	m.board.cycle++
}

func (m *machine) hasEnded() bool {
	for _, c := range m.cores {
		if !c.hasEnded() {
			return false
		}
	}
	return true
}

func (m *machine) report() api.Report {
	r := api.Report{
		Ended:  m.hasEnded(),
		Cycles: m.board.cycle,
		Events: m.board.whole(),
		Out:    string(m.board.out),
		Data:   m.board.Data(),
	}
	for _, c := range m.cores {
		r.Regs = append(r.Regs, c.registers())
	}
	return r
}
