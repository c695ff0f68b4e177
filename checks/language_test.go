// Package checks: tests that hold for the whole project and belong to no layer.
package checks

import (
	"bytes"
	"go/ast"
	"go/format"
	"go/parser"
	"go/token"
	"io/fs"
	"os"
	"path/filepath"
	"slices"
	"strconv"
	"strings"
	"testing"
)

const longestFunction = 66 // "some 60"

var library = []string{
	"bytes", "cmp", "container/heap", "errors", "iter", "maps", "math", "math/big", "math/bits", "slices", "sort", "strconv", "strings", "sync", "sync/atomic", "unicode", "unicode/utf8",
}

// sources: the program's Go files, tests and what .ci/run lays beside them left out.
func sources(t *testing.T) []string {
	var out []string
	err := filepath.WalkDir("..", func(path string, d fs.DirEntry, err error) error {
		if err != nil {
			return err
		}
		if d.IsDir() && (d.Name() == ".git" || d.Name() == "sharedtests") {
			return filepath.SkipDir
		}
		if strings.HasSuffix(path, ".go") && !strings.HasSuffix(path, "_test.go") {
			out = append(out, path)
		}
		return nil
	})
	if err != nil {
		t.Fatal(err)
	}
	if len(out) == 0 {
		t.Fatal("no sources found")
	}
	return out
}

func TestLanguage(t *testing.T) {
	for _, path := range sources(t) {
		src, err := os.ReadFile(path)
		if err != nil {
			t.Fatal(err)
		}
		fset := token.NewFileSet()
		file, err := parser.ParseFile(fset, path, src, parser.ParseComments)
		if err != nil {
			t.Fatal(err)
		}
		holdImports(t, path, file)
		holdComments(t, path, file)
		holdFunctions(t, path, fset, file)
		if laid, err := format.Source(src); err != nil || !bytes.Equal(laid, src) {
			t.Errorf("%s: not in gofmt's layout", path)
		}
	}
}

func holdImports(t *testing.T, path string, file *ast.File) {
	for _, i := range file.Imports {
		name, _ := strconv.Unquote(i.Path.Value)
		if !strings.HasPrefix(name, "redraft/") && !slices.Contains(library, name) {
			t.Errorf("%s: imports %s", path, name)
		}
	}
}

func holdComments(t *testing.T, path string, file *ast.File) {
	for _, g := range file.Comments {
		for _, c := range g.List {
			if strings.HasPrefix(c.Text, "//go:") || strings.HasPrefix(c.Text, "// +build") {
				t.Errorf("%s: a line %s", path, c.Text)
			}
		}
	}
}

func holdFunctions(t *testing.T, path string, fset *token.FileSet, file *ast.File) {
	for _, d := range file.Decls {
		f, ok := d.(*ast.FuncDecl)
		if !ok {
			continue
		}
		if n := fset.Position(f.End()).Line - fset.Position(f.Pos()).Line + 1; n > longestFunction {
			t.Errorf("%s: %s has %d lines", path, f.Name.Name, n)
		}
	}
}
