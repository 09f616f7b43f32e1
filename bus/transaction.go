package bus

import "oocore/api"

// begin lets the next core that has asked have its turn; false: there is none.
func (b *Bus) begin() bool {
	for k := range b.caches {
		next := (b.turn + 1 + k) % len(b.caches)
		if b.Busy(next) {
			b.turn, b.ticks, b.goesOn = next, 0, true
			return true
		}
	}
	return false
}

// do does what the transaction of the core whose turn it is does, and tells what changed.
func (b *Bus) do(a ask) []api.Snoop {
	told := b.lowerOthers(a)
	own := b.caches[b.turn]
	before := own.State(a.line)
	if before != api.Invalid {
		own.Lower(a.line, api.Invalid)
	}
	then := api.Exclusive
	if b.othersHave(a.line) {
		then = api.Shared
	}
	left, is, _ := own.Fill(a.line, b.memory.bytesOf(a.line), then)
	if is {
		b.writeBack(left)
		told = append(told, api.Snoop{Core: b.turn, Addr: left.Addr, From: left.State, To: api.Invalid})
	}
	return append(told, api.Snoop{Core: b.turn, Addr: a.line, From: before, To: then})
}

// lowerOthers lets the other caches have a line no longer, or only to read.
func (b *Bus) lowerOthers(a ask) []api.Snoop {
	to := api.Shared
	if a.write {
		to = api.Invalid
	}
	var told []api.Snoop
	for core, c := range b.caches {
		if core == b.turn || c.State(a.line) <= to {
			continue
		}
		was, _ := c.Lower(a.line, to)
		b.writeBack(was)
		told = append(told, api.Snoop{Core: core, Addr: a.line, From: was.State, To: to})
	}
	return told
}

func (b *Bus) othersHave(line uint32) bool {
	for core, c := range b.caches {
		if core != b.turn && c.State(line) != api.Invalid {
			return true
		}
	}
	return false
}

// writeBack gives memory the bytes of a line that was Modified, and is no more.
func (b *Bus) writeBack(l api.Line) {
	if l.State == api.Modified {
		copy(b.memory.line(l.Addr), l.Bytes[:])
		delete(b.newer, l.Addr)
	}
}
