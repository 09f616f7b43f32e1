package bus

import "oocore/api"

// memory has the bytes of all lines, from DataBase on.
type memory []byte

func isData(data []byte) bool { return len(data)%api.LineSize == 0 && len(data) <= api.MaxData }

func lineOf(addr uint32) uint32 { return addr - addr%api.LineSize }

// has asks for one difference alone: that of an address ahead of the data wraps around to one that is too great.
func (m memory) has(addr uint32) bool { return addr-api.DataBase < uint32(len(m)) }

// line hands on the bytes of a line, and no room for more: who has them does not reach the next line's.
func (m memory) line(addr uint32) []byte {
	from := addr - api.DataBase
	return m[from : from+api.LineSize : from+api.LineSize]
}

func (m memory) bytesOf(addr uint32) [api.LineSize]byte {
	var bytes [api.LineSize]byte
	copy(bytes[:], m.line(addr))
	return bytes
}

func (m memory) copied() memory {
	data := make(memory, len(m))
	copy(data, m)
	return data
}
