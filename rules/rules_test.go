package rules

import (
	"errors"
	"math"
	"testing"

	"oocore/api"
	"oocore/isa"
	"oocore/plain"
)

// extremes are numbers at the ends of all widths.
var extremes = []int{math.MinInt, math.MinInt64 / 2, math.MinInt32 - 1, math.MinInt32, -4097, -1, 0, 1, 31, 32, 67, 68, 4096, math.MaxInt32, math.MaxInt32 + 1, math.MaxUint32, math.MaxUint32 + 1, math.MaxInt}

func TestEncodeOfAnyNumbers(t *testing.T) {
	for _, op := range extremes {
		for _, rd := range extremes {
			for _, rs1 := range extremes {
				for _, rs2 := range extremes {
					for _, imm := range extremes {
						i := api.Instr{Op: api.Op(op), Rd: rd, Rs1: rs1, Rs2: rs2, Imm: imm}
						if w, ok := isa.Encode(i); !ok && w != 0 {
							t.Fatalf("P1: Encode(%+v) = %08x, false", i, w)
						}
					}
				}
			}
		}
	}
}

func TestKindsOfAnyNumber(t *testing.T) {
	for _, n := range extremes {
		op := api.Op(n)
		if n > 0 && n <= int(api.Csrrci) {
			continue
		}
		if a, b := isa.Reads(op); a || b || isa.Writes(op) || isa.ClassOf(op) != api.System {
			t.Errorf("P1: the number %d, which is no operation, has a kind", n)
		}
	}
}

// The same words, in another order, are answered alike.
func TestDecodeKeepsNothing(t *testing.T) {
	words := []uint32{0xffd10093, 0, 0x00832283, 0x1014252f, 0x0ff0000f, 0xffffffff, 0x30200073}
	var first []api.Instr
	for _, w := range words {
		i, _ := isa.Decode(w)
		first = append(first, i)
	}
	for k := len(words) - 1; k >= 0; k-- {
		if i, _ := isa.Decode(words[k]); i != first[k] {
			t.Errorf("P2: Decode(%08x) = %+v, and before %+v", words[k], i, first[k])
		}
	}
}

type wrapped struct{ inner error }

func (w wrapped) Error() string { return "wrapped: " + w.inner.Error() }
func (w wrapped) Unwrap() error { return w.inner }

func TestErrors(t *testing.T) {
	names := []string{"OK", "ErrImage", "ErrConfig", "ErrRange", "ErrFull", "ErrOrder", "ErrFree", "ErrState", "ErrSyntax", "ErrLabel"}
	for n, e := range []api.Errno{api.OK, api.ErrImage, api.ErrConfig, api.ErrRange, api.ErrFull, api.ErrOrder, api.ErrFree, api.ErrState, api.ErrSyntax, api.ErrLabel} {
		if int(e) != n || e.Error() != names[n] {
			t.Errorf("P3: the error %v has the number %d, want %s with %d", e, int(e), names[n], n)
		}
		if plain.Told(e) != e || plain.Told(wrapped{e}) != e || !errors.Is(wrapped{e}, e) {
			t.Errorf("P3: %v is not told, by itself or wrapped", e)
		}
	}
	if plain.Told(nil) != api.OK || plain.Told(errors.New("other")) != -1 {
		t.Error("P3: nil is not OK, or another error is one of the numbers")
	}
}

func TestPlaces(t *testing.T) {
	for _, c := range []struct {
		name      string
		got, want int
	}{
		{"P4: LineSize", api.LineSize, 16}, {"P5: MaxCode", api.MaxCode, 4096}, {"P5: MaxData", api.MaxData, 4096},
		{"P5: DataBase", api.DataBase, 0x10000}, {"P5: Device", api.Device, 0x20000},
	} {
		if c.got != c.want {
			t.Errorf("%s is %d, want %d", c.name, c.got, c.want)
		}
	}
}

// Words wrap around, and are told in 32 bits: the highest bit is a sign only where the format says so.
func TestSigns(t *testing.T) {
	for _, c := range []struct {
		w   uint32
		imm int
	}{{0xfff00013, -1}, {0xfffff037, 0xfffff}, {0xfff01073, 4095}, {0x80000013, -2048}, {0x80001073, 2048}} {
		if i, ok := isa.Decode(c.w); !ok || i.Imm != c.imm {
			t.Errorf("P4: Decode(%08x) = %+v, %v, want Imm %d", c.w, i, ok, c.imm)
		}
	}
}
