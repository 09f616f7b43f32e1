package lsq

import "oocore/api"

// access is a load or a store.
type access struct {
	number   int
	store    bool
	addr     uint32
	size     int // 0, until it is placed
	data     uint32
	hasValue bool
	retired  bool  // only stores: a load that retires is gone
	from     []int // of a load that has its bytes: of each the number of its store; none, if it is memory's
}

func mayStand(addr uint32, size int) bool {
	return (size == 1 || size == 2 || size == 4) && addr%uint32(size) == 0
}

func (a access) isPlaced() bool { return a.size > 0 }

func (a access) isLoaded() bool { return len(a.from) > 0 }

func (a access) isFinished() bool {
	if a.store {
		return a.isPlaced() && a.hasValue
	}
	return a.isLoaded()
}

// covers asks for one difference alone: since no access goes past the last address, that of an address ahead of it wraps around to one that is too great.
func (a access) covers(addr uint32) bool { return addr-a.addr < uint32(a.size) }

// isInLine asks for the first byte alone: the others are in its line, as the address is a multiple of the size.
func (a access) isInLine(addr uint32) bool { return a.addr/api.LineSize == addr/api.LineSize }

// byteAt tells what a store writes at an address that it covers.
func (a access) byteAt(addr uint32) byte { return byte(a.data >> (8 * (addr - a.addr))) }

// lowBytes tells what a store writes as a number.
func (a access) lowBytes() uint32 {
	unused := 32 - 8*a.size
	return a.data << unused >> unused
}

// readTooEarly tells whether a load has a byte that a store writes, but not of it or of a younger one.
func (a access) readTooEarly(store access) bool {
	for i, n := range a.from {
		if n < store.number && store.covers(a.addr+uint32(i)) {
			return true
		}
	}
	return false
}

// fromMemory tells a load that a store is written.
func (a *access) fromMemory(store int) {
	for i, n := range a.from {
		if n == store {
			a.from[i] = none
		}
	}
}
