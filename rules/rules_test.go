// Package rules holds the program's source against the rules of its language.
package rules

import (
	"go/ast"
	"go/format"
	"go/parser"
	"go/token"
	"os"
	"path/filepath"
	"strings"
	"testing"
)

const allowed = " bytes cmp container/heap errors iter maps math math/bits slices sort strconv strings sync sync/atomic unicode unicode/utf8 "

func TestSource(t *testing.T) {
	files, err := filepath.Glob("../*/*.go")
	if err != nil || len(files) < 41 {
		t.Fatal(len(files), err)
	}
	for _, f := range files {
		if strings.Contains(f, "sharedtests") {
			continue
		}
		text, err := os.ReadFile(f)
		if err != nil {
			t.Fatal(err)
		}
		if laid, err := format.Source(text); err != nil || string(laid) != string(text) {
			t.Errorf("%s: not gofmt's layout (%v)", f, err)
		}
		if !strings.HasSuffix(f, "_test.go") {
			look(t, f, text)
		}
	}
}

func look(t *testing.T, name string, text []byte) {
	set := token.NewFileSet()
	f, err := parser.ParseFile(set, name, text, 0)
	if err != nil {
		t.Fatal(err)
	}
	for _, i := range f.Imports {
		path := strings.Trim(i.Path.Value, `"`)
		if !strings.HasPrefix(path, "nestbox/") && !strings.Contains(allowed, " "+path+" ") {
			t.Errorf("%s: import of %s", name, path)
		}
	}
	for _, d := range f.Decls {
		switch x := d.(type) {
		case *ast.FuncDecl:
			lines := set.Position(x.End()).Line - set.Position(x.Pos()).Line
			if lines > 60 || x.Name.Name == "init" {
				t.Errorf("%s: %s (%d lines)", name, x.Name.Name, lines)
			}
		case *ast.GenDecl:
			if x.Tok == token.VAR {
				t.Errorf("%s: a variable at package level, line %d", name, set.Position(x.Pos()).Line)
			}
		}
	}
}
