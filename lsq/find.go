package lsq

import (
	"slices"

	"oocore/api"
)

// none is no place and no number. Memory, too, is none: what it has is older than each store that is in.
const none = -1

// oldest tells the place of the oldest one that is wanted.
func (q *Queue) oldest(wanted func(access) bool) int { return slices.IndexFunc(q.on, wanted) }

// youngest tells the place of the youngest one that is wanted.
func (q *Queue) youngest(wanted func(access) bool) int {
	for k := len(q.on) - 1; k >= 0; k-- {
		if wanted(q.on[k]) {
			return k
		}
	}
	return none
}

func (q *Queue) numberAt(k int) int {
	if k == none {
		return none
	}
	return q.on[k].number
}

// pending tells the place of one that has not retired.
func (q *Queue) pending(number int) int {
	return q.oldest(func(a access) bool { return a.number == number && !a.retired })
}

func (q *Queue) placedLoad(number int) int {
	return q.oldest(func(a access) bool { return a.number == number && !a.store && a.isPlaced() })
}

// wentAhead tells the place of the oldest load that ought to have waited for a store.
func (q *Queue) wentAhead(store access) int {
	return q.oldest(func(a access) bool { return a.number > store.number && a.readTooEarly(store) })
}

// isBehindUnknown tells whether an older store may yet turn out to write a load's bytes.
func (q *Queue) isBehindUnknown(load access) bool {
	return q.oldest(func(a access) bool { return a.store && a.number < load.number && !a.isPlaced() }) != none
}

// sources tells of each of a load's bytes the place of the store that it comes of; none, if it is memory's.
func (q *Queue) sources(load access) []int {
	list := make([]int, load.size)
	for i := range list {
		addr := load.addr + uint32(i)
		list[i] = q.youngest(func(a access) bool { return a.store && a.number < load.number && a.covers(addr) })
	}
	return list
}

// lackValue tells whether a store's value is still to come.
func (q *Queue) lackValue(sources []int) bool {
	return slices.ContainsFunc(sources, func(k int) bool { return k != none && !q.on[k].hasValue })
}

// gather puts together the bytes that come of stores.
func (q *Queue) gather(load access, sources []int) api.Found {
	var f api.Found
	for i, k := range sources {
		if k != none {
			f.Mask |= 1 << i
			f.Value |= uint32(q.on[k].byteAt(load.addr+uint32(i))) << (8 * i)
		}
	}
	return f
}
