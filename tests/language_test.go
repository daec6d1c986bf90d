package tests

import (
	"bytes"
	"go/ast"
	"go/format"
	"go/parser"
	"go/token"
	"os"
	"path/filepath"
	"slices"
	"strings"
	"testing"
)

// maxLines: what LANGUAGE.md calls some 60 lines.
const maxLines = 60

var allowedImports = strings.Fields("bytes cmp container/heap errors iter maps math math/bits slices sort strconv strings sync sync/atomic unicode unicode/utf8")

func TestProgramKeepsToTheLanguage(t *testing.T) {
	files, err := filepath.Glob("../impl/*")
	if err != nil || len(files) == 0 {
		t.Fatal("no program", err)
	}
	for _, name := range files {
		source, err := os.ReadFile(name)
		if err != nil {
			t.Fatal(err)
		}
		layout, err := format.Source(source)
		if err != nil || !bytes.Equal(layout, source) {
			t.Errorf("%s: not in gofmt's layout: %v", name, err)
		}
		places := token.NewFileSet()
		file, err := parser.ParseFile(places, name, source, parser.ParseComments)
		if err != nil {
			t.Fatal(err)
		}
		checkFile(t, places, file)
	}
}

func checkFile(t *testing.T, places *token.FileSet, file *ast.File) {
	for _, i := range file.Imports {
		if !slices.Contains(allowedImports, strings.Trim(i.Path.Value, `"`)) {
			t.Errorf("%s: import of %s", places.Position(i.Pos()), i.Path.Value)
		}
	}
	for _, group := range file.Comments {
		for _, comment := range group.List {
			if strings.HasPrefix(comment.Text, "//go:") || strings.HasPrefix(comment.Text, "// +build") {
				t.Errorf("%s: %s", places.Position(comment.Pos()), comment.Text)
			}
		}
	}
	for _, d := range file.Decls {
		if f, ok := d.(*ast.FuncDecl); ok {
			lines := places.Position(f.End()).Line - places.Position(f.Pos()).Line + 1
			if lines > maxLines {
				t.Errorf("%s: %s has %d lines", places.Position(f.Pos()), f.Name.Name, lines)
			}
		}
	}
}
