package tests

import (
	"bytes"
	"go/ast"
	"go/format"
	"go/parser"
	"go/token"
	"os"
	"path/filepath"
	"strconv"
	"strings"
	"testing"
)

const (
	okImports = " bytes cmp container/heap errors iter maps math math/bits slices sort strconv strings sync sync/atomic unicode unicode/utf8 "
	funcLines = 60
)

// What a look at the text can tell of the language's rules: layout, imports, how long functions are.
func TestLanguage(t *testing.T) {
	files, err := filepath.Glob("../impl/*")
	if err != nil || len(files) == 0 {
		t.Fatal("no files", err)
	}
	for _, file := range files {
		if !strings.HasSuffix(file, ".go") {
			t.Errorf("%s is no Go file", file)
			continue
		}
		source, err := os.ReadFile(file)
		if err != nil {
			t.Fatal(err)
		}
		if laid, err := format.Source(source); err != nil || !bytes.Equal(laid, source) {
			t.Errorf("%s is not in gofmt's layout (%v)", file, err)
		}
		lookAtFile(t, file, source)
	}
}

func lookAtFile(t *testing.T, file string, source []byte) {
	fset := token.NewFileSet()
	f, err := parser.ParseFile(fset, file, source, parser.ParseComments)
	if err != nil {
		t.Fatal(err)
	}
	for _, i := range f.Imports {
		if path, _ := strconv.Unquote(i.Path.Value); !strings.Contains(okImports, " "+path+" ") {
			t.Errorf("%s imports %s", file, path)
		}
	}
	for _, d := range f.Decls {
		if fn, ok := d.(*ast.FuncDecl); ok {
			if lines := fset.Position(fn.End()).Line - fset.Position(fn.Pos()).Line; lines > funcLines {
				t.Errorf("%s: %s has %d lines", file, fn.Name.Name, lines)
			}
		}
	}
	for _, group := range f.Comments {
		for _, c := range group.List {
			if strings.HasPrefix(c.Text, "//go:") || strings.HasPrefix(c.Text, "// +build") {
				t.Errorf("%s: %s", file, c.Text)
			}
		}
	}
}
