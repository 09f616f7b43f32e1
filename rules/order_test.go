package rules

import (
	"go/ast"
	"go/parser"
	"go/token"
	"go/types"
	"path/filepath"
	"slices"
	"strings"
	"testing"
)

// rootOf is the variable of which an expression is a part.
func rootOf(e ast.Expr) string {
	switch x := e.(type) {
	case *ast.Ident:
		return x.Name
	case *ast.SelectorExpr:
		return rootOf(x.X)
	case *ast.IndexExpr:
		return rootOf(x.X)
	case *ast.SliceExpr:
		return rootOf(x.X)
	case *ast.StarExpr:
		return rootOf(x.X)
	case *ast.ParenExpr:
		return rootOf(x.X)
	case *ast.UnaryExpr:
		return rootOf(x.X)
	}
	return ""
}

// mayChange tells whether a call is one of a thing's methods, or is given the thing whole.
func mayChange(c *ast.CallExpr, thing string) bool {
	if f, is := c.Fun.(*ast.SelectorExpr); is && rootOf(f) == thing {
		return true
	}
	return slices.ContainsFunc(c.Args, func(a ast.Expr) bool {
		s := types.ExprString(a)
		return s == thing || s == "&"+thing
	})
}

// openOrders are the places at which a statement sets a part of a thing by what was in that part, and by a call through which it may change: the language says not which of both comes first.
func openOrders(files *token.FileSet, f *ast.File) []string {
	var found []string
	ast.Inspect(f, func(n ast.Node) bool {
		s, is := n.(*ast.AssignStmt)
		if !is {
			return true
		}
		for _, to := range s.Lhs {
			if _, is := to.(*ast.Ident); is {
				continue
			}
			reads, calls := s.Tok != token.ASSIGN, false
			for _, from := range s.Rhs {
				ast.Inspect(from, func(n ast.Node) bool {
					if e, is := n.(ast.Expr); is && types.ExprString(e) == types.ExprString(to) {
						reads = true
					}
					if c, is := n.(*ast.CallExpr); is && mayChange(c, rootOf(to)) {
						calls = true
					}
					return true
				})
			}
			if reads && calls {
				found = append(found, files.Position(s.Pos()).String())
			}
		}
		return true
	})
	return found
}

func TestNoOpenOrders(t *testing.T) {
	names, err := filepath.Glob("../*/*.go")
	if err != nil || len(names) < 50 {
		t.Fatalf("%d files, %v", len(names), err)
	}
	for _, name := range names {
		if strings.HasSuffix(name, "_test.go") {
			continue
		}
		files := token.NewFileSet()
		f, err := parser.ParseFile(files, name, nil, 0)
		if err != nil {
			t.Fatal(err)
		}
		for _, at := range openOrders(files, f) {
			t.Errorf("P2: %s: what is read here hangs on whether the call comes first", at)
		}
	}
}

// The test above finds what it looks for.
func TestOpenOrdersAreFound(t *testing.T) {
	for line, want := range map[string]int{
		"m.out = append(m.out, byte(m.value(1)))": 1, "m.n += m.value(1)": 1, "m.n = m.n + f(m)": 1, "m.l[k].n = m.l[k].n + m.value(1)": 1, "m.n |= f(&m)": 1,
		"m.out = append(m.out, b)": 0, "m.out = append(m.out, o.value(1))": 0, "m.n = m.value(1)": 0, "m.n += f(m.k)": 0, "n += m.value(1)": 0,
	} {
		files := token.NewFileSet()
		f, err := parser.ParseFile(files, "", "package p\nfunc f() {\n"+line+"\n}", 0)
		if err != nil {
			t.Fatal(err)
		}
		if found := openOrders(files, f); len(found) != want {
			t.Errorf("%s: %v", line, found)
		}
	}
}
