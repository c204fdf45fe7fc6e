package frame_test

import (
	"go/ast"
	"go/parser"
	"go/token"
	"go/types"
	"path/filepath"
	"strings"
	"testing"
)

// sources are a package's files, read and checked as a compiler does.
type sources struct {
	files []*ast.File
	info  *types.Info
	pack  *types.Package
}

// load is the package of a path of this module.
func load(path string) (*sources, error) {
	names, err := filepath.Glob(filepath.Join("..", strings.TrimPrefix(path, "crier/"), "*.go"))
	if err != nil {
		return nil, err
	}
	x := &sources{info: &types.Info{Types: map[ast.Expr]types.TypeAndValue{}, Uses: map[*ast.Ident]types.Object{}, Defs: map[*ast.Ident]types.Object{}}}
	set := token.NewFileSet()
	for _, name := range names {
		if strings.HasSuffix(name, "_test.go") {
			continue
		}
		file, err := parser.ParseFile(set, name, nil, 0)
		if err != nil {
			return nil, err
		}
		x.files = append(x.files, file)
	}
	c := types.Config{Importer: ofModule{}}
	x.pack, err = c.Check(path, set, x.files, x.info)
	return x, err
}

// ofModule imports packages of this module alone.
type ofModule struct{}

func (ofModule) Import(path string) (*types.Package, error) {
	x, err := load(path)
	if err != nil {
		return nil, err
	}
	return x.pack, nil
}

// reached are the bodies of the functions and methods that calls of the exported ones may come to, these among them.
func (x *sources) reached() []*ast.BlockStmt {
	bodies := map[types.Object]*ast.BlockStmt{}
	var work []types.Object
	for _, file := range x.files {
		for _, d := range file.Decls {
			if f, ok := d.(*ast.FuncDecl); ok {
				o := x.info.Defs[f.Name]
				bodies[o] = f.Body
				if o.Exported() {
					work = append(work, o)
				}
			}
		}
	}
	var l []*ast.BlockStmt
	for ; len(work) > 0; work = work[1:] {
		body, ok := bodies[work[0]]
		if !ok {
			continue
		}
		delete(bodies, work[0])
		l = append(l, body)
		ast.Inspect(body, func(n ast.Node) bool {
			if name, ok := n.(*ast.Ident); ok {
				work = append(work, x.info.Uses[name])
			}
			return true
		})
	}
	return l
}

// isKey says whether e is of a key's type.
func (x *sources) isKey(e ast.Expr) bool {
	a, ok := x.info.Types[e].Type.Underlying().(*types.Array)
	return ok && a.Len() == 4 && types.Identical(a.Elem(), types.Typ[types.Byte])
}

// copiesKey says whether n is a call of copy from or to a key's bytes.
func (x *sources) copiesKey(n ast.Node) bool {
	call, ok := n.(*ast.CallExpr)
	if !ok {
		return false
	}
	name, ok := call.Fun.(*ast.Ident)
	if !ok || x.info.Uses[name] != types.Universe.Lookup("copy") {
		return false
	}
	for _, arg := range call.Args {
		if s, ok := arg.(*ast.SliceExpr); ok && x.isKey(s.X) {
			return true
		}
	}
	return false
}

// comparesKeys says whether n holds two keys against each other.
func (x *sources) comparesKeys(n ast.Node) bool {
	b, ok := n.(*ast.BinaryExpr)
	return ok && (b.Op == token.EQL || b.Op == token.NEQ) && x.isKey(b.X) && x.isKey(b.Y)
}

// found says whether what the exported functions reach has what is says so of.
func (x *sources) found(is func(ast.Node) bool) bool {
	found := false
	for _, body := range x.reached() {
		ast.Inspect(body, func(n ast.Node) bool {
			found = found || is(n)
			return true
		})
	}
	return found
}

// The chapter's section Ways: a key is put by copy; whether it is one of noughts is told by a comparison of arrays.
func TestWays(t *testing.T) {
	x, err := load("crier/frame")
	if err != nil {
		t.Fatal(err)
	}
	if !x.found(x.copiesKey) {
		t.Error("no key is put by copy")
	}
	if !x.found(x.comparesKeys) {
		t.Error("no keys are compared as arrays")
	}
}
