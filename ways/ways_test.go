// Package ways holds the tests of the document's section Ways: what a part leans on is looked for in its sources.
package ways

import (
	"go/ast"
	"go/token"
	"go/types"
	"testing"
)

// look says whether a node of a package's sources is of the way that is looked for.
type look func(x *sources, n ast.Node) bool

// Which ways are looked for, in what calls of a package's exported functions reach.
func TestWays(t *testing.T) {
	l := newLoader()
	for _, c := range []struct {
		pack, way string
		is        look
	}{
		{"frame", "a key is put by copy", copiesKey},
		{"frame", "keys are held against each other as arrays", comparesKeys},
		{"frames", "events are told by a range over a function", rangesEvents},
		{"frames", "what is read next is told by constants of iota", asksIota},
	} {
		x, err := l.load(module + c.pack)
		if err != nil {
			t.Fatal(err)
		}
		if !x.found(c.is) {
			t.Errorf("%s: nothing is there of this: %s", c.pack, c.way)
		}
	}
}

// isKey says whether e is of a key's type.
func isKey(x *sources, e ast.Expr) bool {
	a, ok := x.info.Types[e].Type.Underlying().(*types.Array)
	return ok && a.Len() == 4 && types.Identical(a.Elem(), types.Typ[types.Byte])
}

// copiesKey says whether n is a call of copy from or to a key's bytes.
func copiesKey(x *sources, n ast.Node) bool {
	call, ok := n.(*ast.CallExpr)
	if !ok {
		return false
	}
	name, ok := call.Fun.(*ast.Ident)
	if !ok || x.info.Uses[name] != types.Universe.Lookup("copy") {
		return false
	}
	for _, arg := range call.Args {
		if s, ok := arg.(*ast.SliceExpr); ok && isKey(x, s.X) {
			return true
		}
	}
	return false
}

// isComparison says whether n holds two things against each other.
func isComparison(n ast.Node) (*ast.BinaryExpr, bool) {
	b, ok := n.(*ast.BinaryExpr)
	return b, ok && (b.Op == token.EQL || b.Op == token.NEQ)
}

// comparesKeys says whether n holds two keys against each other.
func comparesKeys(x *sources, n ast.Node) bool {
	b, ok := isComparison(n)
	return ok && isKey(x, b.X) && isKey(x, b.Y)
}

// rangesEvents says whether n is a range over a function that tells events.
func rangesEvents(x *sources, n ast.Node) bool {
	r, ok := n.(*ast.RangeStmt)
	if !ok {
		return false
	}
	walk, ok := x.info.Types[r.X].Type.Underlying().(*types.Signature)
	if !ok {
		return false
	}
	told := walk.Params().At(0).Type().Underlying().(*types.Signature).Params()
	return told.Len() == 1 && types.Identical(told.At(0).Type(), x.pack.Scope().Lookup("Event").Type())
}

// asksIota says whether n asks whether something is a constant of iota.
func asksIota(x *sources, n ast.Node) bool {
	var asked []ast.Expr
	if c, ok := n.(*ast.CaseClause); ok {
		asked = c.List
	} else if b, ok := isComparison(n); ok {
		asked = []ast.Expr{b.X, b.Y}
	}
	for _, e := range asked {
		if name, ok := e.(*ast.Ident); ok && x.ofIota[x.info.Uses[name]] {
			return true
		}
	}
	return false
}
