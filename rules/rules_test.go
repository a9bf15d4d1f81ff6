// Package rules has tests of how the program is written: what its packages import, how long functions are, what stands at package level, and which ways of the language a layer leans on.
package rules

import (
	"bytes"
	"go/ast"
	"go/format"
	"go/parser"
	"go/token"
	"os"
	"path/filepath"
	"slices"
	"strconv"
	"strings"
	"testing"
)

const (
	root     = ".."
	module   = "forebay"
	mostLine = 65 // of a function
)

// library is what may be imported of the library.
const library = " bytes cmp container/heap errors iter maps math math/bits slices sort strconv strings sync sync/atomic unicode unicode/utf8 "

// layer is a package, what it stands on, and the words of its ways.
type layer struct{ name, on, ways string }

// layers are in the order of the map.
var layers = []layer{
	{"wrap", "", "variadic"},
	{"bits", "", ""},
	{"ins", "bits", "iota fallthrough"},
	{"prog", "bits ins", "goto label"},
	{"words", "", "range-string"},
	{"asm", "ins prog words", "closure"},
	{"build", "ins prog", "map"},
	{"step", "wrap", "array iota"},
	{"store", "", "function-field"},
	{"arena", "", "range-function"},
	{"layout", "", "struct-compared"},
	{"ticket", "store", ""},
	{"deque", "layout store ticket", "function-field method-value"},
	{"model", "", "generic-type generic-function"},
	{"token", "", ""},
	{"frame", "arena layout store", "struct-compared"},
	{"ring", "layout store token", ""},
	{"join", "store", ""},
	{"cross", "ring store", "iota"},
	{"throttle", "ring store", "embedding promoted"},
	{"stage", "", ""},
	{"sink", "", ""},
	{"fault", "", "errors-as"},
	{"log", "", "range-function"},
	{"core", "frame layout log prog sink step store", ""},
	{"worker", "core cross deque frame join layout log ring sink stage step store throttle", "method-expression"},
	{"machine", "core log worker", ""},
	{"run", "core machine prog words", ""},
	{"serial", "prog stage step store", ""},
	{"strand", "serial", ""},
	{"reach", "", ""},
	{"race", "reach serial strand", ""},
	{"grid", "", "complex"},
	{"trace", "grid log", ""},
	{"bound", "layout serial", ""},
	{"sched", "", "range-integer"},
	{"audit", "machine worker", ""},
	{"picture", "grid words", ""},
	{"console", "asm machine run sched words worker", "closure map"},
	{"compare", "machine sched serial sink", "struct-compared"},
	{"span", "reach strand", ""},
	{"tidy", "prog", ""},
	{"replay", "bits machine", ""},
	{"sweep", "compare serial", ""},
}

// file is a Go file of the program, that is no test.
type file struct {
	path string
	text []byte
	set  *token.FileSet
	tree *ast.File
}

// files are those of a package.
func files(t *testing.T, set *token.FileSet, name string) []file {
	t.Helper()
	paths, _ := filepath.Glob(filepath.Join(root, name, "*"))
	var l []file
	for _, path := range paths {
		if strings.HasSuffix(path, "_test.go") {
			continue
		}
		if !strings.HasSuffix(path, ".go") {
			t.Errorf("%s: no Go file", path)
			continue
		}
		text, err := os.ReadFile(path)
		if err != nil {
			t.Fatal(err)
		}
		tree, err := parser.ParseFile(set, path, text, parser.ParseComments)
		if err != nil {
			t.Fatal(err)
		}
		l = append(l, file{path, text, set, tree})
	}
	if len(l) == 0 {
		t.Fatalf("%s: no files", name)
	}
	return l
}

// all calls f for each file of each layer.
func all(t *testing.T, f func(l layer, x file)) {
	t.Helper()
	for _, l := range layers {
		for _, x := range files(t, token.NewFileSet(), l.name) {
			f(l, x)
		}
	}
}

// TestImports: a layer stands on what its chapter names, and on few packages of the library.
func TestImports(t *testing.T) {
	all(t, func(l layer, x file) {
		for _, i := range x.tree.Imports {
			path, _ := strconv.Unquote(i.Path.Value)
			own, ok := strings.CutPrefix(path, module+"/")
			if ok && own != "api" && !slices.Contains(strings.Fields(l.on), own) || !ok && !strings.Contains(library, " "+path+" ") {
				t.Errorf("%s imports %s", x.path, path)
			}
		}
	})
}

// TestLayout: files are as gofmt lays them, and give no orders to the tools.
func TestLayout(t *testing.T) {
	all(t, func(_ layer, x file) {
		if neat, err := format.Source(x.text); err != nil || !bytes.Equal(neat, x.text) {
			t.Errorf("%s is not as gofmt lays it", x.path)
		}
		if bytes.Contains(x.text, []byte("//go:")) || bytes.Contains(x.text, []byte("// +build")) {
			t.Errorf("%s has a line for the tools", x.path)
		}
	})
}

// TestFunctions: functions are short.
func TestFunctions(t *testing.T) {
	all(t, func(_ layer, x file) {
		for _, d := range x.tree.Decls {
			f, ok := d.(*ast.FuncDecl)
			if !ok {
				continue
			}
			if n := x.set.Position(f.End()).Line - x.set.Position(f.Pos()).Line + 1; n > mostLine {
				t.Errorf("%s: %s has %d lines", x.path, f.Name.Name, n)
			}
		}
	})
}

// written tells whether a value is written out where it stands: numbers, texts, and lists of these.
func written(e ast.Expr) bool {
	switch x := e.(type) {
	case *ast.BasicLit:
		return true
	case *ast.UnaryExpr:
		return written(x.X)
	case *ast.Ident:
		return x.Name == "true" || x.Name == "false"
	case *ast.SelectorExpr: // a constant of api
		p, ok := x.X.(*ast.Ident)
		return ok && p.Name == "api"
	case *ast.KeyValueExpr:
		return written(x.Value)
	case *ast.CompositeLit:
		for _, y := range x.Elts {
			if !written(y) {
				return false
			}
		}
		_, isMap := x.Type.(*ast.MapType)
		return !isMap
	case *ast.CallExpr:
		s, ok := x.Fun.(*ast.SelectorExpr)
		if !ok {
			return false
		}
		p, ok := s.X.(*ast.Ident)
		return ok && p.Name == "errors" && s.Sel.Name == "New"
	}
	return false
}

// TestPackageLevel: what stands at package level is constants, errors and short tables.
func TestPackageLevel(t *testing.T) {
	all(t, func(_ layer, x file) {
		for _, d := range x.tree.Decls {
			g, ok := d.(*ast.GenDecl)
			if !ok || g.Tok != token.VAR {
				continue
			}
			for _, s := range g.Specs {
				v := s.(*ast.ValueSpec)
				good := len(v.Values) == len(v.Names)
				for _, e := range v.Values {
					good = good && written(e)
					if _, text := e.(*ast.BasicLit); text {
						good = false
					}
				}
				if !good {
					t.Errorf("%s: %s at package level", x.path, v.Names[0].Name)
				}
			}
		}
	})
}
