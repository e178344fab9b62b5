package seals_test

import (
	"go/ast"
	"go/parser"
	"go/token"
	"path/filepath"
	"strings"
	"testing"
)

// No run tells surely that what is done does not hang on where a seal differs: so the code is looked at.

// sources are the package's own files.
func sources(t *testing.T, fset *token.FileSet) []*ast.File {
	t.Helper()
	names, err := filepath.Glob("*.go")
	if err != nil {
		t.Fatal(err)
	}
	var l []*ast.File
	for _, name := range names {
		if strings.HasSuffix(name, "_test.go") {
			continue
		}
		f, err := parser.ParseFile(fset, name, nil, 0)
		if err != nil {
			t.Fatal(err)
		}
		l = append(l, f)
	}
	if len(l) == 0 {
		t.Fatal("there is no file to look at")
	}
	return l
}

// TestSteadyLoops: no loop has anything in it that could end it, or leave some of it out.
func TestSteadyLoops(t *testing.T) { // P11.2
	fset := token.NewFileSet()
	loops := 0
	for _, f := range sources(t, fset) {
		ast.Inspect(f, func(n ast.Node) bool {
			switch x := n.(type) {
			case *ast.ForStmt:
				t.Errorf("%v: it may end before its range does", fset.Position(x.Pos()))
			case *ast.RangeStmt:
				loops++
				ast.Inspect(x.Body, func(n ast.Node) bool {
					if n != nil && chooses(n) {
						t.Errorf("%v: what is done hangs on something", fset.Position(n.Pos()))
					}
					return true
				})
			}
			return true
		})
	}
	if loops == 0 {
		t.Error("there is no loop to look at")
	}
}

// chooses tells whether something hangs on something there.
func chooses(n ast.Node) bool {
	switch x := n.(type) {
	case *ast.IfStmt, *ast.SwitchStmt, *ast.TypeSwitchStmt, *ast.SelectStmt, *ast.BranchStmt, *ast.ReturnStmt:
		return true
	case *ast.BinaryExpr:
		return x.Op == token.LAND || x.Op == token.LOR
	}
	return false
}

// TestSteadyCompared: only lengths and numbers are held against each other as wholes, as that of texts may end where they differ.
func TestSteadyCompared(t *testing.T) { // P11.2
	fset := token.NewFileSet()
	for _, f := range sources(t, fset) {
		for _, i := range f.Imports {
			if p := i.Path.Value; p != `"strconv"` && p != `"assayer/sums"` {
				t.Errorf("%v: %s may hold texts against each other", fset.Position(i.Pos()), p)
			}
		}
		ast.Inspect(f, func(n ast.Node) bool {
			switch x := n.(type) {
			case *ast.BinaryExpr:
				switch x.Op {
				case token.EQL, token.NEQ, token.LSS, token.LEQ, token.GTR, token.GEQ:
					if !plain(x.X) && !plain(x.Y) {
						t.Errorf("%v: these may be texts", fset.Position(x.Pos()))
					}
				}
			case *ast.SwitchStmt, *ast.MapType:
				t.Errorf("%v: it may hold texts against each other", fset.Position(n.Pos()))
			}
			return true
		})
	}
}

// plain tells whether that is a length, or a number that is written out.
func plain(e ast.Expr) bool {
	switch x := e.(type) {
	case *ast.BasicLit:
		return x.Kind == token.INT
	case *ast.CallExpr:
		f, ok := x.Fun.(*ast.Ident)
		return ok && f.Name == "len"
	}
	return false
}
