package rename

import "oocore/api"

// row is names in a ring: of at most MaxRegisters names some are always registers', so that it is never full.
type row struct {
	names         [api.MaxRegisters]int
	first, length int
}

func (f *row) addLast(name int) {
	f.names[(f.first+f.length)%len(f.names)] = name
	f.length++
}

func (f *row) addFirst(name int) {
	f.first = (f.first + len(f.names) - 1) % len(f.names)
	f.names[f.first] = name
	f.length++
}

func (f *row) takeFirst() int {
	name := f.names[f.first]
	f.first = (f.first + 1) % len(f.names)
	f.length--
	return name
}
