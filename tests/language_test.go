package tests

import (
	"bytes"
	"go/ast"
	"go/format"
	"go/parser"
	"go/token"
	"os"
	"path/filepath"
	"slices"
	"strconv"
	"strings"
	"testing"
)

// library are the packages that the program may import.
var library = strings.Fields("bytes cmp container/heap errors iter maps math math/big math/bits slices sort strconv strings sync sync/atomic unicode unicode/utf8")

const longestFunction = 60

// The rules of the language page that can be read off the text.
func TestProgramKeepsToTheLanguage(t *testing.T) {
	files, err := filepath.Glob("../impl/*")
	if err != nil || len(files) == 0 {
		t.Fatalf("no program: %v", err)
	}
	for _, name := range files {
		text, err := os.ReadFile(name)
		if err != nil {
			t.Fatal(err)
		}
		if filepath.Ext(name) != ".go" {
			t.Errorf("%s: no Go file", name)
			continue
		}
		lookAtFile(t, name, text)
	}
}

func lookAtFile(t *testing.T, name string, text []byte) {
	laidOut, err := format.Source(text)
	if err != nil {
		t.Fatal(err)
	}
	if !bytes.Equal(laidOut, text) {
		t.Errorf("%s: not gofmt's layout", name)
	}
	places := token.NewFileSet()
	file, err := parser.ParseFile(places, name, text, parser.ParseComments)
	if err != nil {
		t.Fatal(err)
	}
	for _, i := range file.Imports {
		if path, _ := strconv.Unquote(i.Path.Value); !slices.Contains(library, path) {
			t.Errorf("%s: imports %s", name, path)
		}
	}
	for _, group := range file.Comments {
		for _, c := range group.List {
			if strings.HasPrefix(c.Text, "//go:") || strings.HasPrefix(c.Text, "// +build") {
				t.Errorf("%s: %s", name, c.Text)
			}
		}
	}
	for _, d := range file.Decls {
		f, ok := d.(*ast.FuncDecl)
		if !ok {
			continue
		}
		if lines := places.Position(f.End()).Line - places.Position(f.Pos()).Line + 1; lines > longestFunction {
			t.Errorf("%s: %s has %d lines", name, f.Name.Name, lines)
		}
	}
}
