package flow

import (
	"slices"

	"oocore/api"
)

const partSize = 1 << 14

// record is the list of what happened, in parts: a long run has millions of events, and one list that grows would be copied over and over.
type record struct {
	full [][]api.Event
	last []api.Event
}

func (r *record) add(e api.Event) {
	if len(r.last) == partSize {
		r.full = append(r.full, r.last)
		r.last = make([]api.Event, 0, partSize)
	}
	r.last = append(r.last, e)
}

// whole is all of it, in fresh memory.
func (r *record) whole() []api.Event {
	return slices.Concat(append(r.full, r.last)...)
}
