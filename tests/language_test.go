package tests

import (
	"bytes"
	"go/ast"
	"go/format"
	"go/parser"
	"go/token"
	"os"
	"path/filepath"
	"slices"
	"strconv"
	"testing"
)

// allowedImports are the packages of the standard library that the program may import.
var allowedImports = []string{
	"bytes", "cmp", "container/heap", "errors", "iter", "maps", "math", "math/bits", "slices", "sort",
	"strconv", "strings", "sync", "sync/atomic", "unicode", "unicode/utf8",
}

// longestFunction is the largest number of lines of a function.
const longestFunction = 60

func TestProgramKeepsToTheLanguage(t *testing.T) {
	names, err := filepath.Glob("../impl/*.go")
	if err != nil || len(names) < 26 {
		t.Fatalf("%d files of the program, %v", len(names), err)
	}
	for _, name := range names {
		text, err := os.ReadFile(name)
		if err != nil {
			t.Fatal(err)
		}
		if tidy, err := format.Source(text); err != nil || !bytes.Equal(tidy, text) {
			t.Errorf("%s does not have gofmt's layout, %v", name, err)
		}
		checkFile(t, name, text)
	}
}

// checkFile tests the imports and the functions of a file.
func checkFile(t *testing.T, name string, text []byte) {
	set := token.NewFileSet()
	file, err := parser.ParseFile(set, name, text, 0)
	if err != nil {
		t.Fatal(err)
	}
	for _, i := range file.Imports {
		if path, err := strconv.Unquote(i.Path.Value); err != nil || !slices.Contains(allowedImports, path) {
			t.Errorf("%s imports %s", name, i.Path.Value)
		}
	}
	for _, d := range file.Decls {
		if f, ok := d.(*ast.FuncDecl); ok {
			if size := set.Position(f.End()).Line - set.Position(f.Pos()).Line + 1; size > longestFunction {
				t.Errorf("%s: %s has %d lines", name, f.Name.Name, size)
			}
		}
	}
}
