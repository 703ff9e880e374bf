package tests

import (
	"bytes"
	"go/ast"
	"go/format"
	"go/parser"
	"go/token"
	"os"
	"path/filepath"
	"slices"
	"strings"
	"testing"
)

// allowedImports are those of the language page.
const allowedImports = " bytes cmp container/heap errors iter maps math math/big math/bits slices sort strconv strings sync sync/atomic unicode unicode/utf8 "

const longestFunction = 60

// TestLanguage looks for what the language page rules out and a text can show.
func TestLanguage(t *testing.T) {
	files, err := filepath.Glob("../impl/*")
	if err != nil || len(files) == 0 {
		t.Fatal("no program", err)
	}
	for _, name := range files {
		if !strings.HasSuffix(name, ".go") {
			t.Error(name, "is no Go file")
			continue
		}
		text, err := os.ReadFile(name)
		if err != nil {
			t.Fatal(err)
		}
		if laidOut, err := format.Source(text); err != nil || !bytes.Equal(laidOut, text) {
			t.Error(name, "is not laid out by gofmt")
		}
		if bytes.Contains(text, []byte("//go:")) || bytes.Contains(text, []byte("// +build")) {
			t.Error(name, "has a line for the compiler")
		}
		checkFile(t, name, text)
	}
}

func checkFile(t *testing.T, name string, text []byte) {
	fset := token.NewFileSet()
	file, err := parser.ParseFile(fset, name, text, 0)
	if err != nil {
		t.Fatal(err)
	}
	for _, i := range file.Imports {
		if !strings.Contains(allowedImports, " "+strings.Trim(i.Path.Value, "\"")+" ") {
			t.Error(name, "imports", i.Path.Value)
		}
	}
	for _, d := range file.Decls {
		f, ok := d.(*ast.FuncDecl)
		if ok && fset.Position(f.End()).Line-fset.Position(f.Pos()).Line >= longestFunction {
			t.Error(name, "has a long function:", f.Name.Name)
		}
	}
}

func TestFolders(t *testing.T) {
	entries, err := os.ReadDir("..")
	if err != nil {
		t.Fatal(err)
	}
	// .ci/run lays the given tests beside the project, in a copy of it.
	known := []string{".ci", ".git", "impl", "tests", "sharedtests"}
	for _, e := range entries {
		if e.IsDir() && !slices.Contains(known, e.Name()) {
			t.Error("a folder that is none of the project:", e.Name())
		}
	}
}
