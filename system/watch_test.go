package system_test

import (
	"slices"
	"testing"

	"oocore/alu"
	"oocore/api"
	"oocore/arch"
	"oocore/bus"
	"oocore/isa"
	"oocore/predict"
)

// inst is an instruction as the watcher knows it.
type inst struct {
	seq, entered, issued, done, due int
	pc                              uint32
	i                               api.Instr
	class                           api.Class
	hasCode                         bool
	guess                           uint32
	mark                            api.Mark
	operand                         [2]operand
	late                            bool // was it done in 2?
	value                           uint32
	taken                           bool
	target                          uint32
	traps                           bool
	addr                            uint32
	size                            int
	from                            []*inst // of a load that has begun: of each byte the store, nil: memory
	word                            uint32  // what a store writes
}

// operand is a register that is read: of an instruction on its way, or its value.
type operand struct {
	reads bool
	of    *inst
	value uint32
}

func (o operand) get() uint32 {
	if o.of != nil {
		return o.of.value
	}
	return o.value
}

// world is what cores have in common, as a watcher knows it: a bus of its own, which is asked for what the chapters say, the data, the device, and the events that are still to come.
type world struct {
	t      *testing.T
	name   string
	first  api.Config // that of the first core
	events []api.Event
	cycle  int
	bus    *bus.Bus
	data   []byte
	out    string
	cores  []*watcher
}

// watcher goes through a core's events cycle by cycle. It computes what each instruction comes to, even those that are thrown away, by who wrote what each reads; what retires is held against a hart with a buffer.
type watcher struct {
	*world
	number   int
	c        api.Config
	code     []uint32
	lines    []int
	hart     *arch.Hart
	guesses  *predict.Predictor
	way      []*inst
	buffer   []*inst
	next     uint32
	entered  int
	line     bool
	reserved uint32
	quiet    int
	kept     bool // does the buffer wait for its line?
}

// watch holds a report against all promises, event by event.
func watch(t *testing.T, name string, in input, x api.Report) {
	t.Helper()
	w := newWorld(t, name, in, x)
	for ; w.cycle < x.Cycles; w.cycle++ {
		if w.hasEnded() {
			w.fail("S1: a cycle behind the end of all")
		}
		w.step()
	}
	if len(w.events) > 0 {
		w.fail("C2: events behind the last cycle")
	}
	if x.Ended != w.hasEnded() || !x.Ended && x.Cycles != in.cycles || x.Cycles > in.cycles {
		w.fail("S1: ended is told as %v, after %d cycles of %d", x.Ended, x.Cycles, in.cycles)
	}
	w.compare(x)
}

func newWorld(t *testing.T, name string, in input, x api.Report) *world {
	t.Helper()
	w := &world{t: t, name: name, first: in.cs[0], events: x.Events, data: slices.Clone(in.data)}
	var shapes []api.Shape
	for k, c := range in.cs {
		shapes = append(shapes, c.Cache)
		hart, err := arch.NewHart(in.codes[k], len(in.data), k)
		if err != nil {
			t.Fatal(err)
		}
		guesses, _ := predict.New(c.Guess)
		w.cores = append(w.cores, &watcher{world: w, number: k, c: c, code: in.codes[k], lines: in.lines[k], hart: hart, guesses: guesses})
	}
	w.bus, _ = bus.New(shapes, w.first.BusCycles, in.data)
	return w
}

func (w *world) compare(x api.Report) {
	w.t.Helper()
	if len(x.Regs) != len(w.cores) || x.Out != w.out || !slices.Equal(x.Data, w.data) {
		w.fail("C2: %d cores, out %q, want %q, data %x, want %x", len(x.Regs), x.Out, w.out, x.Data, w.data)
	}
	for n, c := range w.cores {
		for k, v := range x.Regs[n] {
			if v != c.hart.Reg(k) {
				w.fail("C2: core %d, register %d is %x, want %x", n, k, v, c.hart.Reg(k))
			}
		}
	}
}

func (w *world) fail(format string, args ...any) {
	w.t.Helper()
	w.t.Logf("%s: cycle %d, next %+v", w.name, w.cycle, w.events[:min(3, len(w.events))])
	w.t.Fatalf(format, args...)
}

func (w *world) hasEnded() bool {
	return !slices.ContainsFunc(w.cores, func(c *watcher) bool { return !c.isAtEnd() })
}

func (w *world) step() {
	w.t.Helper()
	snoops := w.bus.Tick()
	for _, c := range w.cores {
		c.step(snoops)
	}
	if len(w.events) > 0 && w.events[0].Cycle <= w.cycle {
		w.fail("C4: an event that ought not to come")
	}
}

func (w *watcher) isAtEnd() bool { return w.hart.Halted() && len(w.buffer) == 0 }

func (w *watcher) step(snoops []api.Snoop) {
	w.t.Helper()
	for _, n := range w.lines {
		w.line = w.line != (n == w.cycle)
	}
	w.left(snoops)
	if !w.hart.Halted() {
		w.compute()
		w.retire()
	}
	if !w.hart.Halted() {
		w.begin()
		w.enter()
	}
	w.drain()
	if w.quiet++; w.quiet >= 200+20*w.first.BusCycles && !w.isAtEnd() {
		w.fail("S3: core %d retires and writes nothing in %d cycles", w.number, w.quiet)
	}
}

// isNext tells whether the core's next event is of this kind and number, in this cycle.
func (w *watcher) isNext(kind, seq int) bool {
	if len(w.events) == 0 {
		return false
	}
	e := w.events[0]
	return e.Core == w.number && e.Cycle == w.cycle && e.Kind == kind && e.Seq == seq
}

// take takes an event that must come now.
func (w *watcher) take(promise string, kind, seq int, pc uint32, what api.Retired) {
	w.t.Helper()
	want := api.Event{Core: w.number, Cycle: w.cycle, Kind: kind, Seq: seq, PC: pc, What: what}
	if len(w.events) == 0 || w.events[0] != want {
		w.fail("%s: want %s: %+v", promise, kindName(kind), want)
	}
	w.events = w.events[1:]
	if kind == api.EvRetire || kind == api.EvDrain {
		w.quiet = 0
	}
}

func (w *watcher) takes(promise string, kind int, i *inst) {
	w.t.Helper()
	w.take(promise, kind, i.seq, i.pc, api.Retired{})
}

// squash throws away all from a number on, the youngest first.
func (w *watcher) squash(promise string, from int) {
	w.t.Helper()
	for len(w.way) > 0 && w.way[len(w.way)-1].seq >= from {
		w.takes(promise+", C2", api.EvSquash, w.way[len(w.way)-1])
		w.way = w.way[:len(w.way)-1]
	}
}

// tooEarly throws a load away, with all younger ones.
func (w *watcher) tooEarly(promise string, load *inst) {
	w.t.Helper()
	w.guesses.Restore(load.mark, load.pc, api.Instr{}, false)
	w.squash(promise, load.seq)
	w.next = load.pc
}

// spoiled is the oldest load that has a byte of memory in a line.
func (w *watcher) spoiled(line uint32) *inst {
	for _, i := range w.way {
		if i.class == api.Load && i.addr>>4 == line>>4 && slices.Contains(i.from, nil) {
			return i
		}
	}
	return nil
}

// left is 0.
func (w *watcher) left(snoops []api.Snoop) {
	w.t.Helper()
	var oldest *inst
	for _, s := range snoops {
		if s.Core == w.number && s.To == api.Invalid {
			if i := w.spoiled(s.Addr); i != nil && (oldest == nil || i.seq < oldest.seq) {
				oldest = i
			}
		}
	}
	if oldest != nil {
		w.tooEarly("C4 0", oldest)
	}
}

// compute is 1.
func (w *watcher) compute() {
	w.t.Helper()
	for k := 0; k < len(w.way); k++ {
		i := w.way[k]
		if i.issued < 0 || i.done >= 0 || i.due != w.cycle {
			continue
		}
		w.takes("C4 1", api.EvDone, i)
		i.done = w.cycle
		if (i.class == api.Branch || i.class == api.Jump) && !i.traps && i.target != i.guess {
			w.guesses.Restore(i.mark, i.pc, i.i, i.taken)
			w.squash("C4 1", i.seq+1)
			w.next = i.target
		}
	}
}

// bytes reads what is seen by an instruction that is younger than all of the list, the oldest first.
func (w *watcher) bytes(addr uint32, size int, stores []*inst) (value uint32, from []*inst) {
	for k := range size {
		at := addr + uint32(k)
		b, of := w.data[at-api.DataBase], (*inst)(nil)
		for _, s := range stores {
			if at >= s.addr && at < s.addr+uint32(s.size) {
				b, of = byte(s.word>>(8*(at-s.addr))), s
			}
		}
		value |= uint32(b) << (8 * k)
		from = append(from, of)
	}
	return value, from
}

// write lets no other core keep a word reserved of which a byte is written.
func (w *watcher) write(addr uint32, size int, value uint32) {
	for k := range size {
		w.data[addr-api.DataBase+uint32(k)] = byte(value >> (8 * k))
	}
	for _, o := range w.cores {
		if o != w && addr < o.reserved+4 && o.reserved < addr+uint32(size) {
			o.reserved = 0
		}
	}
	w.bus.Write(w.number, addr, size, value)
}

// drain is 5.
func (w *watcher) drain() {
	w.t.Helper()
	if len(w.buffer) == 0 {
		return
	}
	s := w.buffer[0]
	isDevice := s.addr >= api.Device
	if !isDevice && w.bus.State(w.number, s.addr) < api.Exclusive {
		w.bus.Ask(w.number, s.addr, true)
		w.kept = true
		return
	}
	w.take("C4 5", api.EvDrain, 0, 0, api.Retired{})
	w.buffer, w.kept = w.buffer[1:], false
	if isDevice {
		w.out += string([]byte{byte(s.word)})
	} else {
		w.write(s.addr, s.size, s.word)
	}
	for _, i := range w.way {
		for k, of := range i.from {
			if of == s {
				i.from[k] = nil
			}
		}
	}
}

// enter is 4.
func (w *watcher) enter() {
	w.t.Helper()
	for range w.c.Width {
		i := w.fetch()
		if len(w.way) > 0 && !w.way[len(w.way)-1].hasCode || !w.hasRoom(i) {
			return
		}
		w.takes("C4 4, C5", api.EvEnter, i)
		w.entered++
		i.guess, i.mark = w.guesses.Guess(i.pc, i.i)
		w.next = i.guess
		w.way = append(w.way, i)
	}
}

func (w *watcher) fetch() *inst {
	i := &inst{seq: w.entered, entered: w.cycle, issued: -1, done: -1, pc: w.next}
	if i.pc%4 == 0 && i.pc/4 < uint32(len(w.code)) {
		i.hasCode = true
		i.i, _ = isa.Decode(w.code[i.pc/4])
	}
	i.class, i.size = isa.ClassOf(i.i.Op), alu.Size(i.i.Op)
	first, second := isa.Reads(i.i.Op)
	i.operand = [2]operand{w.operand(first, i.i.Rs1), w.operand(second, i.i.Rs2)}
	return i
}

func (w *watcher) operand(reads bool, r int) operand {
	if !reads {
		return operand{}
	}
	for k := len(w.way) - 1; k >= 0; k-- {
		if r > 0 && writes(w.way[k]) == r {
			return operand{reads: true, of: w.way[k]}
		}
	}
	return operand{reads: true, value: w.hart.Reg(r)}
}

// writes is the register that an instruction writes, or 0.
func writes(i *inst) int {
	if isa.Writes(i.i.Op) {
		return i.i.Rd
	}
	return 0
}

func isMemory(i *inst) bool { return i.class == api.Load || i.class == api.Store }

func (w *watcher) hasRoom(i *inst) bool {
	named, queued := 0, len(w.buffer)
	for _, o := range w.way {
		if writes(o) != 0 {
			named++
		}
		if isMemory(o) {
			queued++
		}
	}
	return len(w.way) < w.c.Window && (!isMemory(i) || queued < w.c.Queue) && (writes(i) == 0 || named < w.c.Registers-32)
}
