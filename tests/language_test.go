package tests

import (
	"bytes"
	"go/ast"
	"go/format"
	"go/parser"
	"go/token"
	"os"
	"path/filepath"
	"slices"
	"strconv"
	"strings"
	"testing"
)

// The language page bounds what the program is written with: what a text alone can show of it.

const mayImport = " bytes cmp container/heap errors iter maps math math/bits slices sort strconv strings sync sync/atomic unicode unicode/utf8 "

const maxLines = 60

func TestLanguageOfTheProgram(t *testing.T) {
	files, err := filepath.Glob("../impl/*")
	if err != nil || len(files) == 0 {
		t.Fatal(files, err)
	}
	for _, name := range files {
		if !strings.HasSuffix(name, ".go") {
			t.Errorf("%s is no Go file", name)
			continue
		}
		source, err := os.ReadFile(name)
		if err != nil {
			t.Fatal(err)
		}
		fset := token.NewFileSet()
		file, err := parser.ParseFile(fset, name, source, parser.ParseComments)
		if err != nil {
			t.Fatal(err)
		}
		if laid, err := format.Source(source); err != nil || !bytes.Equal(laid, source) {
			t.Errorf("%s is not in gofmt's layout", name)
		}
		if bytes.Contains(source, []byte("//go:")) || bytes.Contains(source, []byte("+build")) {
			t.Errorf("%s has a line for the tools", name)
		}
		importsAllowed(t, name, file)
		lengthsAllowed(t, fset, file)
	}
}

func importsAllowed(t *testing.T, name string, file *ast.File) {
	for _, i := range file.Imports {
		path, _ := strconv.Unquote(i.Path.Value)
		if !strings.Contains(mayImport, " "+path+" ") {
			t.Errorf("%s imports %s", name, path)
		}
	}
}

func lengthsAllowed(t *testing.T, fset *token.FileSet, file *ast.File) {
	for _, d := range file.Decls {
		f, ok := d.(*ast.FuncDecl)
		if !ok {
			continue
		}
		if n := fset.Position(f.End()).Line - fset.Position(f.Pos()).Line + 1; n > maxLines {
			t.Errorf("%s has %d lines", f.Name.Name, n)
		}
	}
}

func TestFoldersOfTheProject(t *testing.T) {
	list, err := os.ReadDir("..")
	if err != nil {
		t.Fatal(err)
	}
	for _, f := range list {
		// sharedtests is laid beside the project in the copy that .ci/run makes.
		if f.IsDir() && !slices.Contains([]string{".ci", ".git", "impl", "tests", "sharedtests"}, f.Name()) {
			t.Errorf("the folder %s is none of the project's", f.Name())
		}
	}
}
