package flow

import "oocore/api"

const partSize = 1 << 10

// record is the list of what happened. A long run has millions of events, which are kept short until all are told.
type record struct {
	events parts[brief]
	whats  parts[api.Retired] // of the events of the kind EvRetire, in their order
}

// brief is an event without What. Numbers of instructions fit, too: each cycle takes in MaxWidth at most.
type brief struct {
	cycle, seq int32
	pc         uint32
	core, kind uint8
}

func (r *record) add(e api.Event) {
	r.events.add(brief{cycle: int32(e.Cycle), seq: int32(e.Seq), pc: e.PC, core: uint8(e.Core), kind: uint8(e.Kind)})
	if e.Kind == api.EvRetire {
		r.whats.add(e.What)
	}
}

// whole is all of it, in fresh memory.
func (r *record) whole() []api.Event {
	list := make([]api.Event, r.events.length)
	retired := 0
	for k := range list {
		b := r.events.at(k)
		list[k] = api.Event{Core: int(b.core), Cycle: int(b.cycle), Kind: int(b.kind), Seq: int(b.seq), PC: b.pc}
		if list[k].Kind == api.EvRetire {
			list[k].What = r.whats.at(retired)
			retired++
		}
	}
	return list
}

// parts is a list that is never copied, as one that grows would be over and over.
type parts[T any] struct {
	list   [][]T
	length int
}

func (p *parts[T]) add(x T) {
	if p.length%partSize == 0 {
		p.list = append(p.list, make([]T, 0, partSize))
	}
	last := len(p.list) - 1
	p.list[last] = append(p.list[last], x)
	p.length++
}

func (p *parts[T]) at(k int) T { return p.list[k/partSize][k%partSize] }
