package tests

import (
	"bytes"
	"go/ast"
	"go/format"
	"go/parser"
	"go/token"
	"os"
	"path/filepath"
	"strings"
	"testing"
)

// allowed is the library that the program may take in.
const allowed = " bytes cmp container/heap errors iter maps math math/bits slices sort strconv strings sync sync/atomic unicode unicode/utf8 "

const linesMax = 60

// sources is the program's files.
func sources(t *testing.T) []string {
	list, err := filepath.Glob("../impl/*.go")
	if err != nil || len(list) == 0 {
		t.Fatal(list, err)
	}
	return list
}

func TestLanguage(t *testing.T) {
	for _, path := range sources(t) {
		text, err := os.ReadFile(path)
		if err != nil {
			t.Fatal(err)
		}
		if tidy, err := format.Source(text); err != nil || !bytes.Equal(tidy, text) {
			t.Errorf("%s is not in gofmt's layout: %v", path, err)
		}
		files := token.NewFileSet()
		file, err := parser.ParseFile(files, path, text, parser.ParseComments)
		if err != nil {
			t.Fatal(err)
		}
		checkImports(t, path, file)
		checkLengths(t, files, file)
		if strings.Contains(string(text), "//go:") || strings.Contains(string(text), "// +build") {
			t.Errorf("%s has a line for the compiler", path)
		}
	}
}

func checkImports(t *testing.T, path string, file *ast.File) {
	for _, spec := range file.Imports {
		if name := strings.Trim(spec.Path.Value, "\""); !strings.Contains(allowed, " "+name+" ") {
			t.Errorf("%s takes in %s", path, name)
		}
	}
}

func checkLengths(t *testing.T, files *token.FileSet, file *ast.File) {
	for _, decl := range file.Decls {
		function, ok := decl.(*ast.FuncDecl)
		if !ok {
			continue
		}
		from, to := files.Position(function.Pos()), files.Position(function.End())
		if lines := to.Line - from.Line + 1; lines > linesMax {
			t.Errorf("%s: %s has %d lines", from, function.Name.Name, lines)
		}
	}
}
