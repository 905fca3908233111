// Package ways checks that each layer uses the language features that the document asks for, and no others than the language of the program has.
package ways

import (
	"go/ast"
	"go/importer"
	"go/parser"
	"go/token"
	"go/types"
	"os"
	"path/filepath"
	"slices"
	"strconv"
	"strings"
	"testing"
)

// layers are the landed layers, with the features of their section 'Ways', and further packages.
func layers() map[string]string {
	return map[string]string{
		"codec":     "array function-field panic recover defer three-index",
		"digest":    "array method-value range-integer",
		"lex":       "array function-field panic recover defer",
		"disk":      "copy three-index range-function",
		"journal":   "range-function array label",
		"network":   "array-compared three-index range-function",
		"merkle":    "range-function variadic label",
		"chain":     "generic-function closure range-function variadic",
		"group":     "range-function label variadic range-integer",
		"elgamal":   "array closure generic-function range-function",
		"sign":      "variadic type-switch method-value",
		"equal":     "variadic range-function closure",
		"beacon":    "map range-function closure variadic",
		"shuffle":   "generic-function map array function-field range-function",
		"blind":     "variadic generic-function embedding promoted",
		"onetime":   "generic-function range-function variadic",
		"syntax":    "method-value panic recover defer variadic type-switch closure",
		"orders":    "map generic-function closure variadic",
		"calendar":  "range-function variadic label range-integer",
		"timetable": "range-function closure method-value generic-function",
		"loading":   "",
		"plans":     "closure map struct-compared function-field three-index",
		"refusals":  "range-function embedding promoted three-index",
		"repairs":   "closure generic-function map struct-compared range-function",
		"flows":     "closure map range-function generic-function",
		"reach":     "closure range-function generic-function map",
		"count":     "range-function closure map array generic-function",
		"bounds":    "range-function map label",
		"explain":   "map range-function closure",
		"grow":      "closure generic-function range-function map",
		"promise":   "range-function closure generic-function",
		"breakers":  "range-function generic-function map closure",
		"registry":  "map array-compared function-field range-function closure",
		"homes":     "map range-function function-field label",
		"aliases":   "range-function map generic-function variadic",
		"forward":   "closure generic-function panic recover defer",
		"stamps":    "variadic closure method-value embedding promoted",
		"books":     "range-function function-field array closure",
		"escrow":    "range-function closure method-value",
		"fund":      "range-function generic-function closure",
		"settle":    "closure embedding promoted panic recover defer",
		"audit":     "range-function method-value struct-compared closure",
		"receipts":  "variadic generic-function embedding promoted",
		"devices":   "generic-function range-function closure",
		"dead":      "range-function generic-function closure method-value",
		"custody":   "constant-table range-function panic recover defer",
		"epochs":    "range-function closure array",
		"handover":  "variadic type-switch range-function struct-compared",
		"office":    "function-field range-function panic recover defer",
		"stores":    "range-function panic recover defer",
		"copies":    "map struct-compared range-function generic-function",
		"relay":     "map closure range-function panic recover defer",
		"post":      "function-field embedding promoted variadic panic recover defer",
		"gossip":    "map method-expression panic recover defer range-function",
		"paths":     "range-function function-field label variadic",
		"arbiter":   "closure range-function label",
		"defence":   "closure variadic type-switch method-expression panic recover defer",
		"bonds":     "generic-function range-function fallthrough variadic closure",
		"reports":   "map function-field range-function variadic type-switch panic recover defer",
		"console":   "map method-expression range-function variadic type-switch generic-type panic recover defer",
		"tariff":    "closure generic-function range-function variadic",
	}
}

var library = []string{"bytes", "cmp", "container/heap", "errors", "iter", "maps", "math", "math/bits", "slices", "sort", "strconv", "strings", "sync", "sync/atomic", "unicode", "unicode/utf8"}

// loader type-checks the packages of the project, and imports the library from its sources.
type loader struct {
	fset *token.FileSet
	std  types.Importer
	done map[string]*unit
}

type unit struct {
	files []*ast.File
	pkg   *types.Package
	info  *types.Info
}

func (l *loader) Import(path string) (*types.Package, error) {
	name, ours := strings.CutPrefix(path, "franking/")
	if !ours {
		return l.std.Import(path)
	}
	u, err := l.load(name)
	if err != nil {
		return nil, err
	}
	return u.pkg, nil
}

func (l *loader) load(name string) (*unit, error) {
	if u := l.done[name]; u != nil {
		return u, nil
	}
	paths, err := filepath.Glob(filepath.Join("..", name, "*.go"))
	if err != nil {
		return nil, err
	}
	u := &unit{info: &types.Info{
		Types: map[ast.Expr]types.TypeAndValue{}, Uses: map[*ast.Ident]types.Object{}, Defs: map[*ast.Ident]types.Object{},
		Selections: map[*ast.SelectorExpr]*types.Selection{},
	}}
	for _, p := range paths {
		if strings.HasSuffix(p, "_test.go") {
			continue
		}
		f, err := parser.ParseFile(l.fset, p, nil, parser.ParseComments)
		if err != nil {
			return nil, err
		}
		u.files = append(u.files, f)
	}
	c := types.Config{Importer: l}
	u.pkg, err = c.Check("franking/"+name, l.fset, u.files, u.info)
	l.done[name] = u
	return u, err
}

func isFunc(t types.Type) bool {
	_, ok := t.Underlying().(*types.Signature)
	return ok
}

// elem returns what a list, an array or a map has as elements.
func elem(t types.Type) types.Type {
	switch t := t.Underlying().(type) {
	case *types.Slice:
		return t.Elem()
	case *types.Array:
		return t.Elem()
	case *types.Map:
		return t.Elem()
	}
	return types.Typ[types.Int]
}

// features returns what language features a package uses.
func features(u *unit) map[string]bool {
	has := map[string]bool{}
	for _, f := range u.files {
		called := map[ast.Expr]bool{}
		ast.Inspect(f, func(n ast.Node) bool {
			if c, ok := n.(*ast.CallExpr); ok {
				called[ast.Unparen(c.Fun)] = true
			}
			return true
		})
		ast.Inspect(f, func(n ast.Node) bool {
			syntax(u, n, has)
			typed(u, n, called, has)
			return true
		})
		tables(u, f, has)
	}
	return has
}

func syntax(u *unit, n ast.Node, has map[string]bool) {
	switch n := n.(type) {
	case *ast.ArrayType:
		if n.Len != nil {
			has["array"] = true
		}
	case *ast.SliceExpr:
		has["three-index"] = has["three-index"] || n.Slice3
	case *ast.DeferStmt:
		has["defer"] = true
	case *ast.LabeledStmt:
		has["label"] = true
	case *ast.FuncDecl:
		if n.Type.TypeParams != nil {
			has["generic-function"] = true
		}
	case *ast.FuncType:
		if l := n.Params.List; len(l) > 0 {
			if _, ok := l[len(l)-1].Type.(*ast.Ellipsis); ok {
				has["variadic"] = true
			}
		}
	case *ast.TypeSpec:
		if n.TypeParams != nil {
			has["generic-type"] = true
		}
	case *ast.MapType:
		has["map"] = true
	case *ast.TypeSwitchStmt:
		has["type-switch"] = true
	case *ast.BranchStmt:
		has["fallthrough"] = has["fallthrough"] || n.Tok == token.FALLTHROUGH
	case *ast.StructType:
		for _, x := range n.Fields.List {
			if len(x.Names) == 0 {
				has["embedding"] = true
			} else if isFunc(u.info.TypeOf(x.Type)) {
				has["function-field"] = true
			}
		}
	case *ast.CallExpr:
		if id, ok := n.Fun.(*ast.Ident); ok {
			if _, builtin := u.info.Uses[id].(*types.Builtin); builtin {
				has[id.Name] = true
			}
		}
	}
}

func typed(u *unit, n ast.Node, called map[ast.Expr]bool, has map[string]bool) {
	switch n := n.(type) {
	case *ast.RangeStmt:
		if isFunc(u.info.TypeOf(n.X)) {
			has["range-function"] = true
		}
		if b, ok := u.info.TypeOf(n.X).Underlying().(*types.Basic); ok && b.Info()&types.IsInteger != 0 {
			has["range-integer"] = true
		}
	case *ast.BinaryExpr:
		if n.Op == token.EQL || n.Op == token.NEQ {
			switch u.info.TypeOf(n.X).Underlying().(type) {
			case *types.Array:
				has["array-compared"] = true
			case *types.Struct:
				has["struct-compared"] = true
			}
		}
	case *ast.SelectorExpr:
		s := u.info.Selections[n]
		if s == nil {
			return
		}
		if s.Kind() == types.MethodExpr {
			has["method-expression"] = true
		}
		if s.Kind() == types.MethodVal && !called[n] {
			has["method-value"] = true
		}
		if s.Kind() == types.MethodVal && len(s.Index()) > 1 {
			has["promoted"] = true
		}
	case *ast.FuncLit:
		ast.Inspect(n.Body, func(m ast.Node) bool {
			if id, ok := m.(*ast.Ident); ok {
				v, ok := u.info.Uses[id].(*types.Var)
				if ok && !v.IsField() && v.Parent() != u.pkg.Scope() && (v.Pos() < n.Pos() || v.Pos() > n.End()) {
					has["closure"] = true
				}
			}
			return true
		})
	}
}

// tables looks at what is declared at package level.
func tables(u *unit, f *ast.File, has map[string]bool) {
	for _, d := range f.Decls {
		g, ok := d.(*ast.GenDecl)
		if !ok || g.Tok != token.VAR {
			continue
		}
		for _, s := range g.Specs {
			if _, ok := u.info.TypeOf(s.(*ast.ValueSpec).Names[0]).Underlying().(*types.Array); ok {
				has["constant-table"] = true
			}
		}
	}
}

func newLoader() *loader {
	fset := token.NewFileSet()
	return &loader{fset: fset, std: importer.ForCompiler(fset, "source", nil), done: map[string]*unit{}}
}

func TestWays(t *testing.T) {
	l := newLoader()
	for name, want := range layers() {
		u, err := l.load(name)
		if err != nil {
			t.Error(name, err)
			continue
		}
		has := features(u)
		for _, w := range strings.Fields(want) {
			if !has[w] {
				t.Error(name, "does not use", w)
			}
		}
		language(t, l, name, u)
	}
}

// language checks some rules of the language of the program.
func language(t *testing.T, l *loader, name string, u *unit) {
	for _, f := range u.files {
		for _, i := range f.Imports {
			p, _ := strconv.Unquote(i.Path.Value)
			if !slices.Contains(library, p) && !strings.HasPrefix(p, "franking/") {
				t.Error(name, "imports", p)
			}
		}
		for _, c := range f.Comments {
			for _, x := range c.List {
				if strings.HasPrefix(x.Text, "//go:") || strings.HasPrefix(x.Text, "// +build") {
					t.Error(name, x.Text)
				}
			}
		}
		for _, d := range f.Decls {
			if n := l.fset.Position(d.End()).Line - l.fset.Position(d.Pos()).Line; n > 60 {
				if x, ok := d.(*ast.FuncDecl); ok {
					t.Error(name, x.Name, "has", n, "lines")
				}
			}
			if g, ok := d.(*ast.GenDecl); ok && g.Tok == token.VAR {
				variables(t, name, u, g)
			}
		}
	}
}

// variables checks that package-level variables are written out, and are no maps, functions or strings.
func variables(t *testing.T, name string, u *unit, g *ast.GenDecl) {
	for _, s := range g.Specs {
		v := s.(*ast.ValueSpec)
		x := u.info.TypeOf(v.Names[0])
		_, isMap := x.Underlying().(*types.Map)
		b, basic := x.Underlying().(*types.Basic)
		if len(v.Values) == 0 || isMap || isFunc(x) || isFunc(elem(x)) || basic && b.Info()&types.IsString != 0 {
			t.Error(name, "has a variable", v.Names[0])
		}
	}
}

// TestGiven checks that no layer is missing in the table of layers once it has its own tests.
func TestGiven(t *testing.T) {
	dirs, err := filepath.Glob("../*/*_test.go")
	if err != nil {
		t.Fatal(err)
	}
	for _, d := range dirs {
		name := filepath.Base(filepath.Dir(d))
		if _, err := os.Stat(filepath.Join("..", name, name+".go")); err != nil {
			continue
		}
		if _, ok := layers()[name]; !ok {
			t.Error(name, "has tests, but no features")
		}
	}
}
