package lang_test

import (
	"fmt"
	"strings"
	"testing"

	"oocore/api"
)

func TestBlanks(t *testing.T) {
	want := 1 + 2
	for _, text := range []string{
		"func main(){return 1+2;}", "\n\tfunc\tmain\n(\t)\n{\nreturn\n1\n+\n2\n;\n}\n", "  func  main ( ) { return 1 + 2 ; }  ", "func main() { return 1+//2;\n2; }//", "//\nfunc main() {//}\nreturn//\n1//+1\n+ 2//3\n;}", "func main() { return 1 + 2; } // é \x00 \xff \r $ \" 12ab",
		"func main() { return 1 /////\n + 2; }//\n//\n\n//", "// func main() { return 9; }\nfunc main() { return 1 + 2; } // and\t//",
	} {
		comes(t, "L1", text, want)
	}
}

// No other sign is a blank, nor a token; a blank within a token makes two of it.
func TestNoBlanks(t *testing.T) {
	for c := range 256 {
		sign := string([]byte{byte(c)})
		if strings.Contains(" \t\n", sign) {
			good(t, "L1", body("return"+sign+"1;"), body("return 1"+sign+"+ 2;"))
			continue
		}
		if !strings.Contains("0123456789abcdefghijklmnopqrstuvwxyz_|^&<>+-*/%!~()[]{},;=", sign) {
			bad(t, "L1", "\n"+body("return "+sign+"1;"), 2, api.ErrSyntax)
			bad(t, "L1", "\n"+body("return 1"+sign+";"), 2, api.ErrSyntax)
			bad(t, "L1", "\n"+body("return 1;"+sign), 2, api.ErrSyntax)
			bad(t, "L1", "\n"+body("return 1;")+sign, 2, api.ErrSyntax)
			bad(t, "L1", sign+body("return 1;"), 1, api.ErrSyntax)
			bad(t, "L1", "var a"+sign+";\n"+body(""), 1, api.ErrSyntax)
		}
	}
	for _, text := range []string{"f unc main() {}", "func ma in() {}", body("return 1 2;"), body("return 1 = = 1;"), body("return 1 ! = 1;"), body("return 1 < = 1;"), body("return 1 > = 1;"), body("return 1 < < 1;"), body("return 1 > > 1;"), body("return 1 | | 1;"), body("retur n 1;"), body("return\r1;"), body("return\v1;"), body("return\f1;"), body("return\u00a01;"), body("return 1; / / end"), body("/**/")} {
		bad(t, "L1", text, 1, api.ErrSyntax)
	}
	good(t, "L1", body("return 1 & 1;"))
	bad(t, "L1", body("return 1 & & 1;"), 1, api.ErrSyntax)
}

// All letters, at the beginning of a name and behind it.
func TestNames(t *testing.T) {
	for c := range 256 {
		sign := string([]byte{byte(c)})
		small, digit := strings.Contains("abcdefghijklmnopqrstuvwxyz_", sign), strings.Contains("0123456789", sign)
		if small {
			good(t, "L1", body("let "+sign+" = 1;"))
		} else if sign != "\t" && sign != "\n" && sign != " " {
			bad(t, "L1", body("let "+sign+" = 1;"), 1, api.ErrSyntax)
			bad(t, "L1", body("let "+sign+"a = 1;"), 1, api.ErrSyntax)
		}
		if small || digit {
			good(t, "L1", body("let a"+sign+" = 1; a"+sign+" = 2;"), body("let q"+sign+"z = 1; let q = 1; let z = 1;"))
		}
	}
	good(t, "L1", body("let _ = 1; let __ = 2; let a_b = _; let _1 = __; let a1b2 = _1 + a_b;"))
	bad(t, "L1", body("let é = 1;"), 1, api.ErrSyntax)
	bad(t, "L1", body("let aé = 1;"), 1, api.ErrSyntax)
	bad(t, "L1", body("let aB = 1;"), 1, api.ErrSyntax)
}

// A name is as long as there are letters: a word with more of them is a name.
func TestWords(t *testing.T) {
	for _, w := range []string{"var", "func", "let", "if", "else", "while", "return", "print"} {
		bad(t, "L1", body("let "+w+" = 1;"), 1, api.ErrSyntax)
		bad(t, "L1", "var "+w+";"+body(""), 1, api.ErrSyntax)
		bad(t, "L1", "func "+w+"() {}"+body(""), 1, api.ErrSyntax)
		bad(t, "L1", "func f("+w+") {}"+body(""), 1, api.ErrSyntax)
		bad(t, "L1", whole(w), 1, api.ErrSyntax)
		bad(t, "L1", body(w+" = 1;"), 1, api.ErrSyntax)
		for _, other := range []string{w + "s", "_" + w, w + "_", w + "1", "a" + w, w + w} {
			comes(t, "L1", body("let "+other+" = 7; return "+other+";"), 7)
		}
	}
	good(t, "L1", body("let main_ = 1;"), body("let vars = 1; let va = 2; let v = 3;"))
	bad(t, "L1", "varx;"+body(""), 1, api.ErrSyntax)
	bad(t, "L1", body("return1;"), 1, api.ErrSyntax)
	bad(t, "L1", body("print_1;"), 1, api.ErrSyntax)
	bad(t, "L1", body("Let a = 1;"), 1, api.ErrSyntax)
}

func TestNumbers(t *testing.T) {
	for _, c := range []struct {
		text  string
		value int
	}{{"0", 0}, {"7", 7}, {"007", 7}, {"00", 0}, {"2147483648", 1 << 31}, {"4294967295", 1<<32 - 1}, {"0004294967295", 1<<32 - 1}, {strings.Repeat("0", 7000) + "12", 12}} {
		comes(t, "L1", whole(c.text), c.value)
	}
	for _, text := range []string{"12ab", "1a", "0x10", "12_", "1_000", "1_", "1e3", "7A", "12_ab", "1é", "4294967296a", "4294967296_", "99999999999z9", "1.5", "1b2"} {
		bad(t, "L1", whole(text), 1, api.ErrSyntax)
		bad(t, "L1", "\nvar a["+text+"];"+body(""), 2, api.ErrSyntax)
	}
	bad(t, "L1", "var a[0a];"+body(""), 1, api.ErrSyntax)
	bad(t, "L1", "var a[257_];"+body(""), 1, api.ErrSyntax)
	bad(t, "L1", whole("4294967296Z"), 1, api.ErrSyntax)
	comes(t, "L1", whole("1+2"), 3)
}

// Of signs that begin alike the longest is taken.
func TestLongestSigns(t *testing.T) {
	for _, c := range []struct {
		text  string
		value int
	}{
		{"1<<2", 4}, {"9>>1", 4}, {"1<=1", 1}, {"1>=1", 1}, {"1==1", 1}, {"1!=1", 0}, {"2&&1", 1}, {"0||2", 1}, {"6&3", 2}, {"6|3", 7}, {"1<2", 1}, {"1>2", 0},
		{"1<-2", 0}, {"6&-2", 6}, {"6|!1", 6}, {"1!=!1", 1}, {"1==-1", 0}, {"3&&!0", 1}, {"1--1", 2}, {"1-~-1", 1}, {"!~-!0", 1}, {"1<<!0", 2}, {"7/2//2", 3},
	} {
		comes(t, "L1", whole(c.text+"\n"), c.value)
	}
	for _, text := range []string{"1<<<2", "1>>>2", "1===1", "1!==1", "1&&&1", "1|||1", "1<=>1", "1=<1", "1=>1", "1<<=1", "1=1", "1=!1", "1><1", "1<>1", "1!1", "1~1", "1&|1", "+1", "1++1", "1**1", "1^^1", "1%%1", "1|", "&1"} {
		bad(t, "L1", whole(text), 1, api.ErrSyntax)
	}
	good(t, "L1", body("let a = 1; a=!a; a=-a; a=~a; a=(a);"))
	bad(t, "L1", body("let a = 1; a==1;"), 1, api.ErrSyntax)
	bad(t, "L1", body("let a == 1;"), 1, api.ErrSyntax)
}

// The end of the text is a token on its last line.
func TestLines(t *testing.T) {
	for n := range 5 {
		lines := strings.Repeat("\n", n)
		bad(t, "L3", lines+"x", n+1, api.ErrSyntax)
		bad(t, "L3", "func"+lines, n+1, api.ErrSyntax)
		bad(t, "L3", "func main() {"+lines, n+1, api.ErrSyntax)
		bad(t, "L3", "func main() { return 1"+lines+"}", n+1, api.ErrSyntax)
		bad(t, "L3", "func main() { return 1;"+lines+"// }\n//", n+2, api.ErrSyntax)
		bad(t, "L3", lines+"func main() { return\n1 2; }\n", n+2, api.ErrSyntax)
		bad(t, "L3", fmt.Sprintf("var a;%s var b", lines), n+1, api.ErrSyntax)
	}
	bad(t, "L3", "//\n//\n $ // \n", 3, api.ErrSyntax)
	bad(t, "L3", "var a; // \r\n$", 2, api.ErrSyntax)
	bad(t, "L3", "var a; \r\n$", 1, api.ErrSyntax)
}
