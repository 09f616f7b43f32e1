package rules

import (
	"oocore/alu"
	"oocore/api"
	"oocore/arch"
	"oocore/asm"
	"oocore/bus"
	"oocore/cache"
	"oocore/core"
	"oocore/gen"
	"oocore/isa"
	"oocore/lang"
	"oocore/lsq"
	"oocore/predict"
	"oocore/rename"
	"oocore/run"
	"oocore/system"
	"oocore/window"
)

// These do not compile if a face is not as its chapter lists it.

var (
	_ func(uint32) (api.Instr, bool)      = isa.Decode
	_ func(api.Instr) (uint32, bool)      = isa.Encode
	_ func(api.Op) api.Class              = isa.ClassOf
	_ func(api.Op) (bool, bool)           = isa.Reads
	_ func(api.Op) bool                   = isa.Writes
	_ func(api.Instr) string              = asm.Print
	_ func(string) ([]uint32, int, error) = asm.Assemble

	_ func(op api.Op, a, b uint32) uint32   = alu.Exec
	_ func(op api.Op, a, b uint32) bool     = alu.Taken
	_ func(api.Op) int                      = alu.Size
	_ func(api.Op, uint32) uint32           = alu.Widen
	_ func(op api.Op, old, b uint32) uint32 = alu.Swap

	_ func([]uint32, int, int) (*arch.Hart, error)      = arch.NewHart
	_ func([]uint32, []byte) (*arch.Machine, error)     = arch.New
	_ func(api.Guessing) (*predict.Predictor, error)    = predict.New
	_ func(int) (*rename.Table, error)                  = rename.New
	_ func(size, registers int) (*window.Window, error) = window.New
	_ func(int) (*lsq.Queue, error)                     = lsq.New
	_ func(api.Shape) (*cache.Cache, error)             = cache.New
	_ func([]api.Shape, int, []byte) (*bus.Bus, error)  = bus.New

	_ func([]uint32, []byte, api.Config, []int, int) (api.Report, error)       = core.Run
	_ func([][]uint32, []byte, []api.Config, [][]int, int) (api.Report, error) = system.Run

	_ func(string) (int, error)                                         = lang.Check
	_ func(text string, stack, steps int) (api.Outcome, error)          = lang.Eval
	_ func(string, int) (string, int, error)                            = gen.Compile
	_ func(text, data string, c api.Config, cycles int) (string, error) = run.Text
	_ func(string, int, api.Config, int) (api.Outcome, error)           = run.Source
)

var _ interface {
	Ask() api.Request
	Do(uint32, bool) api.Retired
	Interrupt() (api.Retired, bool)
	Reg(int) uint32
	Csr(int) (uint32, bool)
	PC() uint32
	Halted() bool
} = (*arch.Hart)(nil)

var _ interface {
	Line(bool)
	Step() (api.Retired, bool)
	Hart() *arch.Hart
	Data() []byte
	Out() string
} = (*arch.Machine)(nil)

var _ interface {
	Guess(uint32, api.Instr) (uint32, api.Mark)
	Restore(api.Mark, uint32, api.Instr, bool)
	Learn(api.Mark, uint32, api.Instr, bool, uint32)
} = (*predict.Predictor)(nil)

var _ interface {
	Look(int) int
	Take(int) (int, int, error)
	Undo(r, fresh, old int) error
	Release(int) error
	Free() int
} = (*rename.Table)(nil)

var _ interface {
	Enter(api.Entry) (int, error)
	Wake(int) error
	Ready(api.Class, int) []int
	Issue(int) error
	Again(int) error
	Done(int) error
	Head() (int, bool, bool)
	Retire() (int, error)
	Squash(int) []int
	Len() int
} = (*window.Window)(nil)

var _ interface {
	Enter(int, bool) error
	Address(int, uint32, int) (int, error)
	Value(int, uint32) error
	Search(int, bool) (api.Found, error)
	Loaded(int) error
	Retire(int) error
	Oldest() (api.Written, bool)
	Drain() error
	Spoil(uint32) int
	Squash(int)
	Len() int
} = (*lsq.Queue)(nil)

var _ interface {
	State(uint32) api.State
	Read(uint32, int) (uint32, bool)
	Write(uint32, int, uint32) bool
	Fill(uint32, [api.LineSize]byte, api.State) (api.Line, bool, error)
	Lower(uint32, api.State) (api.Line, error)
} = (*cache.Cache)(nil)

var _ interface {
	Ask(int, uint32, bool) error
	Busy(int) bool
	Tick() []api.Snoop
	State(int, uint32) api.State
	Read(int, uint32, int) (uint32, bool)
	Write(int, uint32, int, uint32) bool
	Data() []byte
} = (*bus.Bus)(nil)
