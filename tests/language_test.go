package tests

import (
	"bytes"
	"go/ast"
	"go/format"
	"go/parser"
	"go/token"
	"os"
	"path/filepath"
	"strconv"
	"strings"
	"testing"
)

const (
	program         = "../impl"
	longestFunction = 60
	mayImport       = " bytes cmp container/heap errors iter maps math math/bits slices sort strconv strings sync sync/atomic unicode unicode/utf8 "
)

func TestProgramKeepsToTheLanguage(t *testing.T) {
	entries, err := os.ReadDir(program)
	if err != nil {
		t.Fatal(err)
	}
	for _, entry := range entries {
		path := filepath.Join(program, entry.Name())
		if entry.IsDir() || filepath.Ext(path) != ".go" {
			t.Errorf("%s: the program is Go files in one folder", path)
			continue
		}
		source, err := os.ReadFile(path)
		if err != nil {
			t.Fatal(err)
		}
		checkSource(t, path, source)
	}
}

func checkSource(t *testing.T, path string, source []byte) {
	if laid, err := format.Source(source); err != nil || !bytes.Equal(laid, source) {
		t.Errorf("%s: not in gofmt's layout", path)
	}
	files := token.NewFileSet()
	file, err := parser.ParseFile(files, path, source, parser.ParseComments)
	if err != nil {
		t.Fatal(err)
	}
	for _, imported := range file.Imports {
		name, _ := strconv.Unquote(imported.Path.Value)
		if !strings.Contains(mayImport, " "+name+" ") {
			t.Errorf("%s: imports %s", path, name)
		}
	}
	for _, group := range file.Comments {
		for _, comment := range group.List {
			if strings.HasPrefix(comment.Text, "//go:") || strings.HasPrefix(comment.Text, "// +build") {
				t.Errorf("%s: %s", path, comment.Text)
			}
		}
	}
	for _, decl := range file.Decls {
		if f, ok := decl.(*ast.FuncDecl); ok {
			if lines := files.Position(f.End()).Line - files.Position(f.Pos()).Line + 1; lines > longestFunction {
				t.Errorf("%s: %s has %d lines", path, f.Name.Name, lines)
			}
		}
	}
}
