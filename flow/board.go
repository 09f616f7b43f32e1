package flow

import (
	"oocore/api"
	"oocore/bus"
)

// board is what cores have in common: the bus with its memory, the device, the time, and the list of what happened.
type board struct {
	*bus.Bus
	record
	bytes    uint32 // how many there are of data
	cycle    int
	out      []byte
	reserved [api.MaxCores]uint32 // of each core a word's address; 0: nothing is reserved, for there are no data at 0
}

// newBoard makes one whose transactions go on as long as the first core says.
func newBoard(programs []Program, data []byte) (*board, error) {
	var shapes []api.Shape
	for _, p := range programs {
		shapes = append(shapes, p.Made.Cache)
	}
	b, err := bus.New(shapes, programs[0].Made.BusCycles, data)
	if err != nil {
		return nil, err
	}
	return &board{Bus: b, bytes: uint32(len(data))}, nil
}

// write writes bytes, if a core may, and lets no other core have their word reserved any longer. All that is written to data is written here.
func (b *board) write(core int, addr uint32, size int, data uint32) bool {
	if !b.Write(core, addr, size, data) {
		return false
	}
	for other, word := range b.reserved {
		if other != core && word == addr-addr%wordSize {
			b.reserved[other] = 0
		}
	}
	return true
}

func (b *board) note(e api.Event) {
	e.Cycle = b.cycle
	b.add(e)
}
