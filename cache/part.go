package cache

import "oocore/api"

func isLine(addr uint32) bool { return addr%api.LineSize == 0 }

func mayStand(addr uint32, size int) bool {
	return (size == 1 || size == 2 || size == 4) && addr%uint32(size) == 0
}

// part hands on some bytes of a line, and no room for more: who has them reaches no others.
func part(l *api.Line, addr uint32, size int) []byte {
	from := int(addr % api.LineSize)
	return l.Bytes[from : from+size : from+size]
}

func number(bytes []byte) uint32 {
	var n uint32
	for i, b := range bytes {
		n |= uint32(b) << (8 * i)
	}
	return n
}

func put(bytes []byte, n uint32) {
	for i := range bytes {
		bytes[i] = byte(n >> (8 * i))
	}
}
