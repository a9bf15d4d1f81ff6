package rules

import (
	"go/ast"
	"go/build"
	"go/importer"
	"go/token"
	"go/types"
	"maps"
	"os/exec"
	"strings"
	"testing"
)

// built is how many layers, from the first one on, are built, so that their ways must be there.
const built = 44

// checker reads the types of the program's packages.
type checker struct {
	t     *testing.T
	set   *token.FileSet
	std   types.Importer
	packs map[string]*types.Package
	trees map[string][]*ast.File
	info  types.Info
}

func newChecker(t *testing.T) *checker {
	if build.Default.GOROOT == "" { // of a toolchain that doesn't tell where it lies
		out, _ := exec.Command("go", "env", "GOROOT").Output()
		build.Default.GOROOT = strings.TrimSpace(string(out))
	}
	set := token.NewFileSet()
	return &checker{
		t: t, set: set, std: importer.ForCompiler(set, "source", nil),
		packs: map[string]*types.Package{}, trees: map[string][]*ast.File{},
		info: types.Info{
			Types:      map[ast.Expr]types.TypeAndValue{},
			Uses:       map[*ast.Ident]types.Object{},
			Selections: map[*ast.SelectorExpr]*types.Selection{},
		},
	}
}

// Import is a package, of the program or of the library.
func (c *checker) Import(path string) (*types.Package, error) {
	name, ok := strings.CutPrefix(path, module+"/")
	if !ok {
		return c.std.Import(path)
	}
	if c.packs[name] != nil {
		return c.packs[name], nil
	}
	for _, x := range files(c.t, c.set, name) {
		c.trees[name] = append(c.trees[name], x.tree)
	}
	conf := types.Config{Importer: c}
	p, err := conf.Check(path, c.set, c.trees[name], &c.info)
	c.packs[name] = p
	return p, err
}

// found are the ways that were found.
type found map[string]bool

// note notes a way, if it is there.
func (f found) note(way string, is bool) {
	if is {
		f[way] = true
	}
}

// under is what the type of an expression is made of.
func (c *checker) under(e ast.Expr) types.Type {
	if t := c.info.Types[e].Type; t != nil {
		return t.Underlying()
	}
	return nil
}

// ways are the ways that a package's own files have.
func (c *checker) ways(name string) found {
	got := found{}
	for _, tree := range c.trees[name] {
		called := map[ast.Expr]bool{}
		ast.Inspect(tree, func(n ast.Node) bool {
			switch x := n.(type) {
			case *ast.CallExpr:
				called[x.Fun] = true
			case *ast.SelectorExpr:
				c.selected(x, called, got)
			case ast.Expr:
				c.expression(x, got)
			default:
				c.other(n, got)
			}
			return true
		})
	}
	return got
}

// selected notes the ways of a dot.
func (c *checker) selected(x *ast.SelectorExpr, called map[ast.Expr]bool, got found) {
	if o := c.info.Uses[x.Sel]; o != nil && o.Pkg() != nil && o.Pkg().Path() == "errors" && o.Name() == "As" {
		got.note("errors-as", true)
	}
	s := c.info.Selections[x]
	if s == nil {
		return
	}
	got.note("promoted", len(s.Index()) > 1)
	got.note("method-expression", s.Kind() == types.MethodExpr)
	got.note("method-value", s.Kind() == types.MethodVal && !called[x])
}

// expression notes the ways of an expression.
func (c *checker) expression(n ast.Expr, got found) {
	if v := c.info.Types[n]; v.IsValue() && v.Value == nil {
		if b, ok := v.Type.Underlying().(*types.Basic); ok && b.Info()&types.IsComplex != 0 {
			got.note("complex", true)
		}
	}
	switch x := n.(type) {
	case *ast.FuncLit:
		got.note("closure", true)
	case *ast.StructType:
		c.parts(x, got)
	case *ast.Ellipsis:
		got.note("variadic", x.Elt != nil)
	case *ast.MapType:
		got.note("map", true)
	case *ast.ArrayType:
		got.note("array", x.Len != nil)
	case *ast.Ident:
		got.note("iota", x.Name == "iota")
	case *ast.IndexExpr:
		if m, ok := c.under(x.X).(*types.Map); ok {
			_, is := m.Key().Underlying().(*types.Struct)
			got.note("struct-compared", is)
		}
	case *ast.BinaryExpr:
		if _, is := c.under(x.X).(*types.Struct); is && (x.Op == token.EQL || x.Op == token.NEQ) {
			got.note("struct-compared", true)
		}
	}
}

// other notes the ways of what is no expression.
func (c *checker) other(n ast.Node, got found) {
	switch x := n.(type) {
	case *ast.BranchStmt:
		got.note(x.Tok.String(), true)
	case *ast.LabeledStmt:
		got.note("label", true)
	case *ast.TypeSpec:
		got.note("generic-type", x.TypeParams != nil)
	case *ast.FuncDecl:
		got.note("generic-function", x.Type.TypeParams != nil)
	case *ast.RangeStmt:
		c.ranged(x, got)
	}
}

// parts notes the ways of a struct's fields.
func (c *checker) parts(x *ast.StructType, got found) {
	for _, f := range x.Fields.List {
		if len(f.Names) == 0 {
			got.note("embedding", true)
		}
		if _, is := c.under(f.Type).(*types.Signature); is {
			got.note("function-field", true)
		}
	}
}

// ranged notes over what a loop goes.
func (c *checker) ranged(x *ast.RangeStmt, got found) {
	switch t := c.under(x.X).(type) {
	case *types.Signature:
		got.note("range-function", true)
	case *types.Basic:
		if t.Info()&types.IsString != 0 {
			got.note("range-string", true)
		} else {
			got.note("range-integer", true)
		}
	}
}

// reached are the ways that a package and those it stands on have.
func (c *checker) reached(name string) found {
	got := c.ways(name)
	for _, tree := range c.trees[name] {
		for _, i := range tree.Imports {
			if own, ok := strings.CutPrefix(strings.Trim(i.Path.Value, `"`), module+"/"); ok {
				maps.Copy(got, c.reached(own))
			}
		}
	}
	return got
}

// TestWays: each layer that is built has the ways that it leans on.
func TestWays(t *testing.T) {
	c := newChecker(t)
	for _, l := range layers[:built] {
		if _, err := c.Import(module + "/" + l.name); err != nil {
			t.Fatal(err)
		}
		got := c.reached(l.name)
		for _, way := range strings.Fields(l.ways) {
			if !got[way] {
				t.Errorf("%s: no %s", l.name, way)
			}
		}
	}
}
