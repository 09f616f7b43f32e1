package bus_test

import (
	"testing"

	"oocore/api"
)

// What was written in one cache is read in the other, whichever way the line comes there.
func TestWrittenIsRead(t *testing.T) {
	for from := range 2 {
		for _, toWrite := range []bool{read, write} {
			b := two(t)
			to := 1 - from
			brings(t, b, from, at, write)
			writes(t, b, from, at+4, 4, 0x11223344)
			brings(t, b, to, at, toWrite)
			reads(t, b, to, at+4, 4, 0x11223344)
			reads(t, b, to, at, 4, 0x03020100)

			// Behind a line that had to leave.
			b = two(t)
			brings(t, b, from, at, write)
			writes(t, b, from, at+4, 4, 0x11223344)
			brings(t, b, from, at+16, read)
			states(t, b, at, api.Invalid, api.Invalid)
			brings(t, b, to, at, toWrite)
			reads(t, b, to, at+4, 4, 0x11223344)
		}
	}
}

// Both have a line to read, and both ask for it to write: the second has lost it when its turn comes.
func TestBothToWrite(t *testing.T) {
	for _, cycles := range []int{0, 1, 10} {
		b := made(t, cycles, 64, one, one)
		brings(t, b, 0, at, read)
		brings(t, b, 1, at, read)
		asks(t, b, 1, at, write, nil)
		asks(t, b, 0, at, write, nil)
		quiet(t, b, cycles)
		ticks(t, b, snoop(1, at, 1, 0), snoop(0, at, 1, 2))
		writes(t, b, 0, at, 1, 0x50)
		quiet(t, b, cycles)
		ticks(t, b, snoop(0, at, 3, 0), snoop(1, at, 0, 2))
		reads(t, b, 1, at, 2, 0x0150)
		writes(t, b, 1, at+1, 1, 0x51)
		quiet(t, b, 2*cycles+2)
		want := row(64)
		want[0], want[1] = 0x50, 0x51
		data(t, b, want)
	}
}

// A Shared line that is asked for to write makes no other leave, and is used last then.
func TestSharedToWrite(t *testing.T) {
	b := made(t, 0, 64, api.Shape{Sets: 1, Ways: 2}, one)
	brings(t, b, 1, at, read)
	brings(t, b, 0, at, read)
	brings(t, b, 0, at+16, write)
	writes(t, b, 0, at+16, 1, 0x99)
	asks(t, b, 0, at, write, nil)
	ticks(t, b, snoop(1, at, 1, 0), snoop(0, at, 1, 2))
	states(t, b, at+16, api.Modified, api.Invalid)
	asks(t, b, 0, at+32, read, nil)
	ticks(t, b, snoop(0, at+16, 3, 0), snoop(0, at+32, 0, 2))
	states(t, b, at, api.Exclusive, api.Invalid)
}

// Which line has to leave hangs on the uses up to the Tick in which the transaction is done.
func TestUsedWhileItGoesOn(t *testing.T) {
	b := made(t, 2, 64, api.Shape{Sets: 1, Ways: 2})
	brings(t, b, 0, at, write)
	brings(t, b, 0, at+16, write)
	asks(t, b, 0, at+32, read, nil)
	quiet(t, b, 2)
	reads(t, b, 0, at, 1, 0)
	ticks(t, b, snoop(0, at+16, 2, 0), snoop(0, at+32, 0, 2))

	asks(t, b, 0, at+48, read, nil)
	quiet(t, b, 2)
	writes(t, b, 0, at, 1, 0)
	ticks(t, b, snoop(0, at+32, 2, 0), snoop(0, at+48, 0, 2))
}

// State, Busy, Data, what is refused, and the other core's asks do not count as used.
func TestNotUsed(t *testing.T) {
	b := made(t, 0, 64, api.Shape{Sets: 1, Ways: 3}, one)
	for k := range uint32(3) {
		brings(t, b, 0, at+16*k, write)
		writes(t, b, 0, at+16*k, 1, 0xa0+k)
	}
	want := row(64)
	want[0], want[16], want[32] = 0xa0, 0xa1, 0xa2
	data(t, b, want)
	brings(t, b, 1, at, read)
	noWrite(t, b, 0, at, 1)
	noRead(t, b, 0, at, 3)
	asks(t, b, 0, at, read, api.ErrState)
	states(t, b, at, api.Shared, api.Shared)
	data(t, b, want)
	asks(t, b, 0, at+48, read, nil)
	ticks(t, b, snoop(0, at, 1, 0), snoop(0, at+48, 0, 2))
	data(t, b, want)
	brings(t, b, 0, at, read)
	states(t, b, at+16, api.Invalid)
	states(t, b, at+32, api.Modified)
	data(t, b, want)
}

// Data does not count as used either, in whatever order the lines were.
func TestDataIsNotUse(t *testing.T) {
	for _, order := range [][]uint32{{0, 1, 2}, {0, 2, 1}, {1, 0, 2}, {1, 2, 0}, {2, 0, 1}, {2, 1, 0}} {
		b := made(t, 0, 64, api.Shape{Sets: 1, Ways: 3})
		want := row(64)
		for _, k := range order {
			brings(t, b, 0, at+16*k, write)
			writes(t, b, 0, at+16*k, 1, 0x99)
			want[16*k] = 0x99
			data(t, b, want)
		}
		asks(t, b, 0, at+48, read, nil)
		ticks(t, b, snoop(0, at+16*order[0], 3, 0), snoop(0, at+48, 0, 2))
		data(t, b, want)
	}
}

// A line that is Shared once is so until it leaves, though the other cache has it no more.
func TestSharedAlone(t *testing.T) {
	b := two(t)
	brings(t, b, 0, at, read)
	brings(t, b, 1, at, read)
	asks(t, b, 1, at+16, read, nil)
	ticks(t, b, snoop(1, at, 1, 0), snoop(1, at+16, 0, 2))
	states(t, b, at, api.Shared, api.Invalid)
	noWrite(t, b, 0, at, 4)
	asks(t, b, 0, at, read, api.ErrState)
	asks(t, b, 0, at, write, nil)
	ticks(t, b, snoop(0, at, 1, 2))
}

// Lines that are Modified in both caches, more than once written, and in memory again.
func TestDataOfModifiedLines(t *testing.T) {
	b := made(t, 1, 64, api.Shape{Sets: 2, Ways: 1}, one)
	want := row(64)
	brings(t, b, 0, at, write)
	brings(t, b, 0, at+48, read)
	brings(t, b, 1, at+32, write)
	data(t, b, want)
	for n, place := range []uint32{0, 1, 63, 15, 48, 0} {
		writes(t, b, 0, at+place, 1, uint32(0x60+n))
		want[place] = byte(0x60 + n)
		data(t, b, want)
	}
	writes(t, b, 1, at+36, 4, 0xd0c0b0a0)
	copy(want[36:], []byte{0xa0, 0xb0, 0xc0, 0xd0})
	data(t, b, want)

	brings(t, b, 1, at, read) // both leave their caches as Modified: one by Lower, one by Fill
	states(t, b, at, api.Shared, api.Shared)
	states(t, b, at+32, api.Invalid, api.Invalid)
	data(t, b, want)
	brings(t, b, 1, at+48, write)
	data(t, b, want)
	writes(t, b, 1, at+62, 2, 0x0201)
	want[62], want[63] = 1, 2
	data(t, b, want)
	brings(t, b, 0, at+32, write)
	data(t, b, want)
	reads(t, b, 0, at+36, 4, 0xd0c0b0a0)
}

// Memory has the bytes of a line that was Modified once: later ones, too, when it was Modified again.
func TestModifiedAgain(t *testing.T) {
	b := two(t)
	want := row(64)
	for n := range 12 {
		core, place := n%2, uint32(n)
		brings(t, b, core, at, write)
		writes(t, b, core, at+place, 1, uint32(0x80+n))
		want[place] = byte(0x80 + n)
		data(t, b, want)
		if n%3 == 0 {
			brings(t, b, core, at+16, read)
			data(t, b, want)
		}
	}
	brings(t, b, 0, at, read)
	for i := range uint32(12) {
		reads(t, b, 0, at+i, 1, 0x80+i)
	}
}
