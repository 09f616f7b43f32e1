package gen_test

import (
	"slices"
	"testing"
)

func TestExamples(t *testing.T) {
	comes(t, "func main() { return 7; }", 10, 7)
	fails(t, "func main() { return 7; }", 9, 2, "")
	fails(t, "var g; var a[3]; func main() { a[2] = 5; g = a[2] + 1; return a[3]; }", 10, 1, "", 6, 0, 0, 5)
	comes(t, "func main() { let i = 0; while i < 3 { print 65 + i; i = i + 1; } return i; }", 11, 3)
	fails(t, "var a[2]; func main() { a[2] = 1; }", 512, 1, "", 0, 0)
	fails(t, "func f() { return f(); } func main() { return f(); }", 512, 2, "")
	comes(t, "func main() { print 65; print 321; return -7 / 2 * 10 + -7 % 2; }", 10, -31)
	const summed = "var g; var a[3]; func f(n) { g = g + n; if n < 1 { return 0; } return f(n - 1); } func main() { a[1] = f(3); a[2] = 5; return g; }"
	comes(t, summed, 54, 6)
	fails(t, summed, 53, 2, "", 6, 0, 0, 0)
}

// Programs of some length that compute something.
func TestLongerPrograms(t *testing.T) {
	comes(t, "func fib(n) { if n < 2 { return n; } return fib(n - 1) + fib(n - 2); } func main() { return fib(12); }", 512, 144)
	comes(t, "func gcd(a, b) { while b != 0 { let r = a % b; a = b; b = r; } return a; } func main() { return gcd(1071, 462) * 1000 + gcd(17, 5); }", 40, 21001)
	comes(t, "func ack(m, n) { if m == 0 { return n + 1; } if n == 0 { return ack(m - 1, 1); } return ack(m - 1, ack(m, n - 1)); } func main() { return ack(2, 3); }", 512, 9)
	comes(t, "func even(n) { if n == 0 { return 1; } return odd(n - 1); } func odd(n) { if n == 0 { return 0; } return even(n - 1); } func main() { return even(20) * 2 + odd(7); }", 512, 3)
	comes(t, "var n; func main() { n = n + 1; if n < 10 { return main() + n; } return n; }", 512, 100)
	o, _ := agree(t, "var s[100]; func main() { let i = 2; while i < 100 { if !s[i] { let j = i * i; while j < 100 { s[j] = 1; j = j + i; } print i; } i = i + 1; } }", 12)
	if primes := []byte{2, 3, 5, 7, 11, 13, 17, 19, 23, 29, 31, 37, 41, 43, 47, 53, 59, 61, 67, 71, 73, 79, 83, 89, 97}; o.Out != string(primes) {
		t.Errorf("G2: the primes are %v", []byte(o.Out))
	}
	o, _ = agree(t, "var a[12]; func swap(i, j) { let k = a[i]; a[i] = a[j]; a[j] = k; } func sort(l, r) { if l >= r { return 0; } let m = l; let i = l + 1; while i <= r { if a[i] < a[l] { m = m + 1; swap(m, i); } i = i + 1; } swap(l, m); sort(l, m - 1); sort(m + 1, r); } func main() { let i = 0; while i < 12 { a[i] = i * 7919 % 31 - 15; i = i + 1; } sort(0, 11); }", 512)
	if o.Fault != 0 || !slices.IsSortedFunc(o.Globals, func(a, b uint32) int { return int(int32(a)) - int(int32(b)) }) {
		t.Errorf("G2: sorted: %+v", o)
	}
	o, _ = agree(t, "func digits(n) { if n > 9 { digits(n / 10); } print 48 + n % 10; } func main() { digits(1234567890); print 10; digits(0); }", 512)
	if o.Out != "1234567890\n0" {
		t.Errorf("G2: digits: %q", o.Out)
	}
	o, _ = agree(t, "func hanoi(n, a, b, c) { if n { hanoi(n - 1, a, c, b); print a; print b; hanoi(n - 1, c, b, a); } } func main() { hanoi(3, 65, 66, 67); }", 100)
	if o.Out != "ABACBCABCACBAB" {
		t.Errorf("G2: hanoi: %q", o.Out)
	}
}
