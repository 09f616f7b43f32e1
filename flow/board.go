package flow

import (
	"oocore/api"
	"oocore/bus"
)

// board is what cores have in common: the bus with its memory, the device, the time, and the list of what happened.
type board struct {
	*bus.Bus
	record
	bytes uint32 // how many there are of data
	cycle int
	out   []byte
}

// newBoard makes one whose transactions go on as long as the first core says.
func newBoard(programs []Program, data []byte) (*board, error) {
	var shapes []api.Shape
	for _, p := range programs {
		shapes = append(shapes, p.Made.Cache)
	}
	b, err := bus.New(shapes, programs[0].Made.BusCycles, data)
	if err != nil {
		return nil, err
	}
	return &board{Bus: b, bytes: uint32(len(data))}, nil
}

func (b *board) note(e api.Event) {
	e.Cycle = b.cycle
	b.add(e)
}
