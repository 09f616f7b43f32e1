package gen_test

import (
	"strings"
	"testing"

	"oocore/api"
	"oocore/asm"
	"oocore/gen"
	"oocore/lang"
	"oocore/plain"
)

// form is a text that can be as long as one likes: what stands ahead, what is repeated, and what stands behind.
type form struct{ ahead, unit, behind string }

// text is the longest one that has at most so many bytes; what is left are blanks.
func (f form) text(size int) string {
	s := f.ahead + strings.Repeat(f.unit, max(0, (size-len(f.ahead)-len(f.behind))/len(f.unit))) + f.behind
	return s + strings.Repeat(" ", size-len(s))
}

// nested is a part within itself.
func nested(times int, open, inside, end string) string {
	return strings.Repeat(open, times) + inside + strings.Repeat(end, times)
}

// forms come to much code, each by something else: the code of an index, of a choice, of a call with all that is kept around it, of numbers, of functions, of statements, and of all that a branch must reach over.
func forms() []form {
	const in = "func main(){"
	deepest := nested(19, "a[", "0", "]")
	held := "1-(1-(1-(1-(1-(1-("
	shut := "))))))"
	return []form{
		{"var a[1];" + in, "a[" + nested(21, "a[", "0", "]") + "]=0;", "}"},
		{"var a[1];" + in + "return 0", "||" + nested(21, "a[", "0", "]"), ";}"},
		{"var a[1];" + in + "return 1", "&&" + nested(21, "a[", "0", "]"), ";}"},
		{"var a[1];" + in + "if 1{", "a[" + deepest + "]=" + deepest + ";", "}return 5;}"},
		{"var a[1];" + in + "if 0{", "a[" + deepest + "]=" + deepest + ";", "}return 5;}"},
		{"var a[1];" + in + "if 0{", "a[" + deepest + "]=" + deepest + ";", "}else{return 4;}return 5;}"},
		{"var a[1];" + in + "if 1{return 3;}else{", "a[" + deepest + "]=" + deepest + ";", "}return 5;}"},
		{"var a[1];" + in + "if 0{return 3;}else{", "a[" + deepest + "]=" + deepest + ";", "}return 5;}"},
		{"var a[1];var g;" + in + "while g<2{g=g+1;", "a[" + deepest + "]=" + deepest + ";", "}return g;}"},
		{"var a[1];" + in + "while 0{", "a[" + deepest + "]=" + deepest + ";", "}return 6;}"},
		{"var a[1];" + in + "if 0 && (0", "||" + deepest, "){return 1;}return 2;}"},
		{"var a[1];" + in + "return (1||(0", "||" + deepest, "))+(0&&a[1]);}"},
		{"var a[1];" + in + "if 1{return 9;}", "a[" + deepest + "]=" + deepest + ";", "}"},
		{"var a[1];func f(){return a[0];}" + in + "return f()", "+f()+" + deepest, ";}"},
		{"func k(){}" + in, "k();", "return 5;}"},
		{"func k(){}" + in + "if 1{", "k();", "}return 5;}"},
		{"func k(){}" + in + "while 0{", "k();", "}return 6;}"},
		{"func k(){}" + in + "return " + held + "k()", "+k()", shut + ";}"},
		{"func k(){}" + in + "return " + held + "k()", "<=k()", shut + ";}"},
		{"func k(x){}" + in + "return " + held + "(k(1)", "||" + nested(10, "k(", "0", ")"), ")" + shut + ";}"},
		{"func k(){return 1;}" + in + "return 0", "+(k()-(k()-(k()-(k()-(k()-(k()-k()))))))", ";}"},
		{"func f(a,b,c,d,e,g){return a;}func k(){}" + in, "f(k(),k(),k(),k(),k(),k());", "}"},
		{"func f(a,b,c,d,e,g){return a;}" + in + "return 0", "+f(1,2,3,4,5,6)", ";}"},
		{"func k(){}" + in + "return 0", "||0|0^0&0<1+0*k()", ";}"}, {"func k(){}var a[1];" + in + "return 0", "||a[a[a[a[a[a[a[0|0^0&0<0*k()]]]]]]]", ";}"},
		{in + "return 9", "+2048", ";}"}, {in + "return 9", "<=9", ";}"}, {in + "return 9", "&&9", ";}"}, {in + "return 9", "||9", ";}"}, {in + "return 9", "==9", ";}"}, {in + "return 9", "-9", ";}"},
		{in + "return 9", "&&!-~!-~!-~!-~!-~!-~!-~9", ";}"}, {in + "return 9", "-" + nested(21, "-", "9", ""), ";}"},
		{in, "if 9{}", "}"}, {in, "if 9{}else{}", "}"}, {in, "while 0{}", "}"}, {in, "if 0{while 0{if 0{while 0{}}}}", "}"}, {in, "print 9;", "}"}, {in + "if 0{", "return 9;", "}}"},
		{"var g;" + in, "g=9;", "}"}, {"var g;" + in, "g=g;", "}"}, {"var g;" + in, "g=g<=g;", "}"}, {"var g;" + in + "g=0", "||g", ";}"},
		{"var a[1];" + in, "a[0]=0;", "}"}, {"var a[1];" + in + "return 0", "+a[0]", ";}"},
		{"func main(){" + strings.Repeat("if 1{", 20), "print 9;", strings.Repeat("}", 21)},
		{"func main(){" + strings.Repeat("if 1{}else{", 20), "print 9;", strings.Repeat("}", 21)},
	}
}

// A text of 600 bytes is assembled, whatever it comes to, and does what it means.
func TestSixHundredBytes(t *testing.T) {
	most := 0
	for _, f := range forms() {
		for size := 600; size > 590; size-- {
			text := f.text(size)
			if _, err := lang.Check(text); err != nil {
				t.Fatalf("Check(%q): %v", shown(text), err)
			}
			agree(t, text, 200)
			code, _ := assembled(t, text, 200)
			most = max(most, len(code))
		}
	}
	// Branches must then reach over more than they can.
	if most < 1100 {
		t.Errorf("the longest code has %d words", most)
	}
}

// Functions of many names and many words, in as few bytes as there may be.
func TestManyFunctions(t *testing.T) {
	const letters = "abcdefghijklnopqrstuvwxyz"
	text := "func main(){}"
	for k := 0; len(text)+10 < 600; k++ {
		text += "func " + letters[k/25:k/25+1] + letters[k%25:k%25+1] + "(){}"
	}
	agree(t, text[:strings.LastIndex(text, "func")], 10)
	text = "func main(){}"
	for k := 0; len(text)+30 < 600; k++ {
		text += "func " + letters[k:k+1] + "(m,_,a0,a1,a2,a3){m=_;}"
	}
	agree(t, text, 10)
}

// A longer text may come to too much: then that is told, and nothing else. One that is assembled does what it means.
func TestLongerTexts(t *testing.T) {
	tooMuch, fine := 0, 0
	for _, f := range forms() {
		for _, size := range []int{601, 700, 1000, 1500, 2000, 2500, 3000, 4000, 5000, 6000, 7000, 8000} {
			text := f.text(size)
			s, _, err := gen.Compile(text, 200)
			if err != nil {
				t.Fatalf("G1: Compile(%q): %v", shown(text), err)
			}
			_, line, err := asm.Assemble(s)
			switch plain.Told(err) {
			case api.OK:
				fine++
				if o, _ := lang.Eval(text, 200, mostSteps); o.Ended {
					agree(t, text, 200)
				}
			case api.ErrImage, api.ErrRange:
				tooMuch++
			default:
				t.Errorf("G1: %q: line %d: %v", shown(text), line, err)
			}
		}
	}
	if tooMuch < 20 || fine < 100 {
		t.Errorf("%d texts are assembled, %d are not", fine, tooMuch)
	}
}
