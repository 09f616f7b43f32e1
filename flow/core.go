package flow

import (
	"slices"

	"oocore/api"
	"oocore/arch"
	"oocore/isa"
	"oocore/lsq"
	"oocore/predict"
	"oocore/rename"
	"oocore/window"
)

const (
	none      = -1 // no number, and no name
	wordSize  = 4
	registers = 32
)

// core computes out of order, by names, and has a hart that does again what retires: what is seen of a core is the hart's. Its parts are asked only for what they can do, so that their errors are not looked at.
type core struct {
	*arch.Hart
	*predict.Predictor
	*rename.Table
	*window.Window
	*lsq.Queue
	board  *board
	number int
	made   api.Config
	code   []api.Instr
	values [api.MaxRegisters]uint32 // by name
	way    []*flight                // what is on its way, the oldest first
	next   uint32                   // where the next one is taken in
	turns  []int                    // cycles to come at which the interrupt line turns, in order
	line   bool
	isLate bool // has the oldest store that has retired waited for its line since an earlier cycle?
}

func newCore(p Program, number int, h *arch.Hart, b *board) (*core, error) {
	if !hasBounds(p.Made) {
		return nil, api.ErrConfig
	}
	guesses, err := predict.New(p.Made.Guess)
	if err != nil {
		return nil, err
	}
	names, err := rename.New(p.Made.Registers)
	if err != nil {
		return nil, err
	}
	places, err := window.New(p.Made.Window, p.Made.Registers)
	if err != nil {
		return nil, err
	}
	queue, err := lsq.New(p.Made.Queue)
	if err != nil {
		return nil, err
	}
	turns := slices.Clone(p.Lines)
	slices.Sort(turns)
	return &core{
		Hart: h, Predictor: guesses, Table: names, Window: places, Queue: queue,
		board: b, number: number, made: p.Made, code: decoded(p.Code), turns: turns,
	}, nil
}

// hasBounds looks at those numbers of a configuration that no part looks at.
func hasBounds(c api.Config) bool {
	return isWithin(c.Width, 1, api.MaxWidth) && isWithin(c.Units, 1, api.MaxUnits) && isWithin(c.MulCycles, 1, api.MaxMulCycles) && isWithin(c.BusCycles, 0, api.MaxBusCycles)
}

func isWithin(n, least, most int) bool { return least <= n && n <= most }

// decoded reads all words; what is no instruction has the operation Illegal.
func decoded(code []uint32) []api.Instr {
	list := make([]api.Instr, len(code))
	for k, word := range code {
		list[k], _ = isa.Decode(word)
	}
	return list
}

// step is one cycle behind the bus's Tick, which did this to caches.
func (c *core) step(snoops []api.Snoop) {
	c.turnLine()
	c.spoil(snoops)
	if !c.Halted() {
		c.finish()
		c.retire()
	}
	if !c.Halted() {
		c.begin()
		c.enter()
	}
	c.drain()
}

func (c *core) turnLine() {
	for len(c.turns) > 0 && c.turns[0] <= c.board.cycle {
		if c.turns[0] == c.board.cycle { // else it is below 0
			c.line = !c.line
		}
		c.turns = c.turns[1:]
	}
}

func (c *core) hasEnded() bool { return c.Halted() && !c.storeWaits() }

// storeWaits tells whether there is a store that has retired and is not written.
func (c *core) storeWaits() bool {
	_, is := c.Oldest()
	return is
}

func (c *core) registers() [registers]uint32 {
	var all [registers]uint32
	for i := range all {
		all[i] = c.Reg(i)
	}
	return all
}

// tell notes what happens to an instruction.
func (c *core) tell(kind int, f *flight) {
	c.board.note(api.Event{Core: c.number, Kind: kind, Seq: f.seq, PC: f.pc})
}
