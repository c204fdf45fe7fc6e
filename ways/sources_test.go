package ways

import (
	"go/ast"
	"go/importer"
	"go/parser"
	"go/token"
	"go/types"
	"path/filepath"
	"strings"
)

// module is what the paths of its packages begin with.
const module = "crier/"

// sources are a package's files, read and checked as a compiler does.
type sources struct {
	files  []*ast.File
	info   *types.Info
	pack   *types.Package
	ofIota map[types.Object]bool // its constants that stand in a group with iota
}

// loader loads packages, each once: else a type would not be the same in two that import it.
type loader struct {
	set     *token.FileSet
	library types.Importer
	loaded  map[string]*sources
}

// newLoader is one that loaded nothing.
func newLoader() *loader {
	set := token.NewFileSet()
	return &loader{set, importer.ForCompiler(set, "source", nil), map[string]*sources{}}
}

// Import is for those packages that others import.
func (l *loader) Import(path string) (*types.Package, error) {
	if !strings.HasPrefix(path, module) {
		return l.library.Import(path)
	}
	x, err := l.load(path)
	if err != nil {
		return nil, err
	}
	return x.pack, nil
}

// load is the package of a path of this module.
func (l *loader) load(path string) (*sources, error) {
	if x, ok := l.loaded[path]; ok {
		return x, nil
	}
	names, err := filepath.Glob(filepath.Join("..", strings.TrimPrefix(path, module), "*.go"))
	if err != nil {
		return nil, err
	}
	x := &sources{info: &types.Info{Types: map[ast.Expr]types.TypeAndValue{}, Uses: map[*ast.Ident]types.Object{}, Defs: map[*ast.Ident]types.Object{}}, ofIota: map[types.Object]bool{}}
	for _, name := range names {
		if strings.HasSuffix(name, "_test.go") {
			continue
		}
		file, err := parser.ParseFile(l.set, name, nil, 0)
		if err != nil {
			return nil, err
		}
		x.files = append(x.files, file)
	}
	c := types.Config{Importer: l}
	if x.pack, err = c.Check(path, l.set, x.files, x.info); err != nil {
		return nil, err
	}
	x.findIota()
	l.loaded[path] = x
	return x, nil
}

// findIota finds the constants of iota.
func (x *sources) findIota() {
	for _, file := range x.files {
		ast.Inspect(file, func(n ast.Node) bool {
			group, ok := n.(*ast.GenDecl)
			if !ok || group.Tok != token.CONST || !x.namesIota(group) {
				return true
			}
			for _, line := range group.Specs {
				for _, name := range line.(*ast.ValueSpec).Names {
					x.ofIota[x.info.Defs[name]] = true
				}
			}
			return true
		})
	}
}

// namesIota says whether iota stands in a group of constants.
func (x *sources) namesIota(group *ast.GenDecl) bool {
	names := false
	ast.Inspect(group, func(n ast.Node) bool {
		if name, ok := n.(*ast.Ident); ok && x.info.Uses[name] == types.Universe.Lookup("iota") {
			names = true
		}
		return true
	})
	return names
}

// reached are the bodies of the functions and methods that calls of the exported ones may come to, these among them.
func (x *sources) reached() []*ast.BlockStmt {
	bodies := map[types.Object]*ast.BlockStmt{}
	var work []types.Object
	for _, file := range x.files {
		for _, d := range file.Decls {
			if f, ok := d.(*ast.FuncDecl); ok {
				o := x.info.Defs[f.Name]
				bodies[o] = f.Body
				if o.Exported() {
					work = append(work, o)
				}
			}
		}
	}
	var l []*ast.BlockStmt
	for ; len(work) > 0; work = work[1:] {
		body, ok := bodies[work[0]]
		if !ok {
			continue
		}
		delete(bodies, work[0])
		l = append(l, body)
		ast.Inspect(body, func(n ast.Node) bool {
			if name, ok := n.(*ast.Ident); ok {
				work = append(work, x.info.Uses[name])
			}
			return true
		})
	}
	return l
}

// found says whether what the exported functions reach has what is says so of.
func (x *sources) found(is look) bool {
	found := false
	for _, body := range x.reached() {
		ast.Inspect(body, func(n ast.Node) bool {
			found = found || is(x, n)
			return true
		})
	}
	return found
}
