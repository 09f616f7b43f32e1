package gen_test

import (
	"fmt"
	"slices"
	"testing"
)

// Indexes up to the last are fine; the next one, and all above it, without sign, are not.
func TestIndexes(t *testing.T) {
	for _, size := range []uint32{1, 2, 3, 7, 255, 256} {
		for _, index := range append([]uint32{size - 1, size, size + 1, size / 2, size * 4}, edges...) {
			head := fmt.Sprintf("var g; var a[%d]; var h;", size)
			words := make([]uint32, size+2)
			words[0], words[size+1] = 1, 2
			if index < size {
				comes(t, head+body(fmt.Sprintf("a[%d] = 77; return a[%d];", index, index)), 10, 77)
				comes(t, head+body(fmt.Sprintf("let i = %d; a[i] = 77; return 1 + a[i];", index)), 11, 78)
				continue
			}
			fails(t, head+body(fmt.Sprintf("g = 1; h = 2; a[%d] = 77; g = 9;", index)), 10, 1, "", words...)
			fails(t, head+body(fmt.Sprintf("g = 1; h = 2; g = a[%d]; g = 9;", index)), 10, 1, "", words...)
			fails(t, head+"func i() { return "+fmt.Sprint(index)+"; }"+body("g = 1; h = 2; print 65; g = 5 + (5 + a[i()]); g = 9;"), 40, 1, "A", words...)
			fails(t, head+"func i() { return "+fmt.Sprint(index)+"; }"+body("g = 1; h = 2; a[i()] = i(); g = 9;"), 40, 1, "", words...)
		}
	}
}

// An array is its own words, and no other's.
func TestArraysApart(t *testing.T) {
	_, f := agree(t, "var a[3]; var b[1]; var c[4]; var g;"+body("let i = 0; while i < 4 { if i < 3 { a[i] = 10 + i; } if i < 1 { b[i] = 20 + i; } c[i] = 30 + i; g = g + c[i]; i = i + 1; }"), 11)
	if want := []uint32{10, 11, 12, 20, 30, 31, 32, 33, 126}; !slices.Equal(f.data[:9], want) {
		t.Errorf("G2: %v, want %v", f.data[:9], want)
	}
}

// A put's place comes ahead of its value; its index is looked at behind both.
func TestOrderOfPuts(t *testing.T) {
	const head = told + "var g; var a[4]; func in(x) { g = g + 1; return x; }"
	o, _ := agree(t, head+body("a[told(1)] = told(2);"), 40)
	if o.Out != "12" || !slices.Equal(o.Globals, []uint32{0, 0, 2, 0, 0}) {
		t.Errorf("G2: %+v", o)
	}
	fails(t, head+body("a[told(4)] = told(2);"), 40, 1, "42", 0, 0, 0, 0, 0)
	fails(t, head+body("a[9] = told(2);"), 40, 1, "2", 0, 0, 0, 0, 0)
	fails(t, head+body("a[4] = in(2);"), 40, 1, "", 1, 0, 0, 0, 0)
	// A fault within the value comes ahead of the index's own.
	fails(t, head+body("a[4] = told(5) + a[told(7)] + told(6);"), 40, 1, "57", 0, 0, 0, 0, 0)
	fails(t, head+"func e() { return e(); }"+body("a[4] = e();"), 60, 2, "", 0, 0, 0, 0, 0)
	// The place's value is that of the time when it was evaluated.
	comes(t, head+body("a[g] = in(7); return a[0] * 10 + a[1];"), 40, 70)
	comes(t, head+body("a[g] = in(in(7)) + g; return a[0] * 10 + a[1];"), 40, 90)
	comes(t, head+body("let i = 1; a[a[i]] = a[i] + 5; a[i] = 3; a[a[i]] = a[i] + 5; return a[0] * 100 + a[3];"), 40, 508)
	comes(t, head+body("a[in(2)] = a[in(2)] + in(3); return a[2] + g * 10;"), 40, 33)
}
