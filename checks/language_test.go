package checks

import (
	"go/ast"
	"go/format"
	"go/parser"
	"go/token"
	"os"
	"path/filepath"
	"strings"
	"testing"
)

const allowed = " bytes cmp container/heap errors iter maps math math/bits slices sort strconv strings sync sync/atomic unicode unicode/utf8 "

// TestLanguage: no file of the program leaves the rules of its language that a reader of its text can see.
func TestLanguage(t *testing.T) {
	paths, err := filepath.Glob("../*/*.go")
	if err != nil || len(paths) == 0 {
		t.Fatal("no files", err)
	}
	for _, path := range paths {
		if !strings.HasSuffix(path, "_test.go") && !strings.Contains(path, "sharedtests") {
			checkFile(t, path)
		}
	}
}

func checkFile(t *testing.T, path string) {
	text, err := os.ReadFile(path)
	if err != nil {
		t.Fatal(err)
	}
	if neat, err := format.Source(text); err != nil || string(neat) != string(text) {
		t.Errorf("%s: not in gofmt's layout", path)
	}
	files := token.NewFileSet()
	file, err := parser.ParseFile(files, path, text, parser.ParseComments)
	if err != nil {
		t.Fatal(err)
	}
	for _, group := range file.Comments {
		for _, c := range group.List {
			if strings.HasPrefix(c.Text, "//go:") || strings.HasPrefix(c.Text, "// +build") {
				t.Errorf("%s: %s", path, c.Text)
			}
		}
	}
	for _, i := range file.Imports {
		name := strings.Trim(i.Path.Value, `"`)
		if !strings.HasPrefix(name, "escapement/") && !strings.Contains(allowed, " "+name+" ") {
			t.Errorf("%s imports %s", path, name)
		}
	}
	for _, d := range file.Decls {
		checkDecl(t, path, files, d)
	}
}

func checkDecl(t *testing.T, path string, files *token.FileSet, d ast.Decl) {
	switch x := d.(type) {
	case *ast.FuncDecl:
		if n := files.Position(x.End()).Line - files.Position(x.Pos()).Line + 1; n > 60 {
			t.Errorf("%s: %s has %d lines", path, x.Name.Name, n)
		}
		if x.Name.Name == "init" && x.Recv == nil {
			t.Errorf("%s has an init", path)
		}
		ast.Inspect(x, func(n ast.Node) bool {
			switch n.(type) {
			case *ast.GoStmt, *ast.SelectStmt, *ast.ChanType:
				t.Errorf("%s: %s starts or speaks to a goroutine", path, x.Name.Name)
			}
			return true
		})
	case *ast.GenDecl:
		if x.Tok != token.VAR {
			return
		}
		for _, s := range x.Specs {
			v := s.(*ast.ValueSpec)
			if len(v.Values) != len(v.Names) {
				t.Errorf("%s: %s has no value of its own", path, v.Names[0].Name)
			}
			for _, value := range v.Values {
				checkValue(t, path, v.Names[0].Name, value)
			}
		}
	}
}

// checkValue: a variable of a package is a table that is written out, or an error made by errors.New.
func checkValue(t *testing.T, path, name string, value ast.Expr) {
	ast.Inspect(value, func(n ast.Node) bool {
		switch x := n.(type) {
		case *ast.CallExpr:
			if s, ok := x.Fun.(*ast.SelectorExpr); !ok || s.Sel.Name != "New" {
				t.Errorf("%s: %s is made by a call", path, name)
			}
		case *ast.MapType, *ast.FuncLit, *ast.FuncType, *ast.UnaryExpr:
			if u, ok := x.(*ast.UnaryExpr); !ok || u.Op == token.AND {
				t.Errorf("%s: %s is no plain table", path, name)
			}
		}
		return true
	})
}
