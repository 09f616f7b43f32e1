package gen_test

import (
	"strings"
	"testing"

	"oocore/api"
	"oocore/lang"
	"oocore/plain"
)

// Check's error is told first, whatever the stack is.
func TestWhatCheckRefuses(t *testing.T) {
	for _, c := range []struct {
		text string
		want api.Errno
	}{
		{strings.Repeat(" ", 8001), api.ErrImage}, {body("") + strings.Repeat(" ", 8001-len(body(""))), api.ErrImage}, {"var a[256]; var b[256]; var c;" + body(""), api.ErrImage}, {"var a[256]; var b[255]; var c[2];" + body(""), api.ErrImage},
		{"x", api.ErrSyntax}, {"func main() { return 1 }", api.ErrSyntax}, {"func main() { return 12ab; }", api.ErrSyntax}, {"func main() {", api.ErrSyntax}, {"$", api.ErrSyntax}, {"func main() { { } }", api.ErrSyntax}, {"\xff", api.ErrSyntax},
		{"var abcdefghijklmnopq;", api.ErrRange}, {whole("4294967296"), api.ErrRange}, {"var a[0];" + body(""), api.ErrRange}, {"var a[257];" + body(""), api.ErrRange}, {"func f(a, b, c, d, e, g, h) {}" + body(""), api.ErrRange}, {whole(strings.Repeat("(", 23) + "1" + strings.Repeat(")", 23)), api.ErrRange},
		{"", api.ErrLabel}, {"func main(a) {}", api.ErrLabel}, {"var main;", api.ErrLabel}, {"func f() {}", api.ErrLabel}, {"var a; var a;" + body(""), api.ErrLabel}, {whole("x"), api.ErrLabel}, {"func f(x) { let x = 1; }" + body(""), api.ErrLabel}, {"var a[2];" + body("a = 1;"), api.ErrLabel}, {"func f(x) {}" + body("f();"), api.ErrLabel}, {body("let a = a;"), api.ErrLabel},
		{whole("1 + (2 + (3 + (4 + (5 + (6 + (7 + (8 + 9)))))))"), api.ErrFull}, {body(lets(25)), api.ErrFull}, {six + body("six(1, 2, 3, 4, 5, 1 + (2 + (3 + 4)));"), api.ErrFull}, {"var a[2];" + body("a[1] = 1 + (2 + (3 + (4 + (5 + (6 + (7 + 8))))));"), api.ErrFull},
	} {
		if _, err := lang.Check(c.text); plain.Told(err) != c.want {
			t.Errorf("Check(%q): %v", shown(c.text), err)
		}
		for _, stack := range []int{10, 0, 512, -1, 513, 1<<63 - 1, -1 << 63} {
			refused(t, c.text, stack, c.want)
		}
	}
	for _, stack := range []int{-1, 513} {
		refused(t, six+told+whole("six(1, 2, 3, 4, 5, told(6))"), stack, api.ErrRange)
		refused(t, body("")+strings.Repeat(" ", 8000-len(body(""))), stack, api.ErrRange)
	}
	comes(t, body("return 3;")+strings.Repeat(" ", 8000-len(body("return 3;"))), 10, 3)
}
