package whole

import (
	"go/ast"
	"go/format"
	"go/parser"
	"go/token"
	"io/fs"
	"os"
	"path/filepath"
	"strconv"
	"strings"
	"testing"
)

// allowed are the packages of the library that the program may use.
const allowed = " bytes cmp container/heap errors iter maps math math/bits slices sort strconv strings sync sync/atomic unicode unicode/utf8 "

// sources tells all Go files of the program that are no tests.
func sources(t *testing.T) []string {
	t.Helper()
	var l []string
	err := filepath.WalkDir("..", func(path string, d fs.DirEntry, err error) error {
		switch {
		case err != nil:
			return err
		case d.IsDir() && (d.Name() == "sharedtests" || d.Name() == ".git"):
			return fs.SkipDir
		case strings.HasSuffix(path, ".go") && !strings.HasSuffix(path, "_test.go"):
			l = append(l, path)
		}
		return nil
	})
	if err != nil || len(l) < 23 {
		t.Fatal(len(l), err)
	}
	return l
}

// TestLanguage: the imports, the layout, the length of functions, and what stands at package level.
func TestLanguage(t *testing.T) {
	for _, path := range sources(t) {
		text, err := os.ReadFile(path)
		if err != nil {
			t.Fatal(err)
		}
		if laid, err := format.Source(text); err != nil || string(laid) != string(text) {
			t.Error(path, "layout", err)
		}
		if strings.Contains(string(text), "//go:") || strings.Contains(string(text), "// +build") {
			t.Error(path, "lines for the tools")
		}
		fset := token.NewFileSet()
		file, err := parser.ParseFile(fset, path, text, 0)
		if err != nil {
			t.Fatal(err)
		}
		for _, i := range file.Imports {
			name, _ := strconv.Unquote(i.Path.Value)
			if !strings.HasPrefix(name, "marshalling/") && !strings.Contains(allowed, " "+name+" ") {
				t.Error(path, name)
			}
		}
		for _, d := range file.Decls {
			declared(t, fset, path, d)
		}
	}
}

func declared(t *testing.T, fset *token.FileSet, path string, d ast.Decl) {
	t.Helper()
	switch x := d.(type) {
	case *ast.FuncDecl:
		if n := fset.Position(x.End()).Line - fset.Position(x.Pos()).Line; n > 60 {
			t.Error(path, x.Name.Name, n)
		}
	case *ast.GenDecl:
		if x.Tok != token.VAR {
			return
		}
		for _, s := range x.Specs {
			v := s.(*ast.ValueSpec)
			if len(v.Values) != len(v.Names) || len(v.Values) == 0 {
				t.Error(path, v.Names[0].Name, "without a value of its own")
				continue
			}
			for _, value := range v.Values {
				list, ok := value.(*ast.CompositeLit)
				if !ok {
					t.Error(path, v.Names[0].Name, "no table")
					continue
				}
				if _, ok := list.Type.(*ast.ArrayType); !ok {
					t.Error(path, v.Names[0].Name, "no list")
				}
			}
		}
	}
}
