package tests

import (
	"go/ast"
	"go/parser"
	"go/token"
	"path/filepath"
	"testing"
)

// orderCheck finds statements that read what a call in them writes: Go does not say which of both comes first.
type orderCheck struct {
	places   *token.FileSet
	changing map[string]bool                         // methods with pointers as receivers
	closures map[*ast.Object]map[*ast.Object]bool    // by the variable that has a closure: what it writes
	found    func(place token.Position, name string) // told of each such read
}

func newOrderCheck(files *token.FileSet, all []*ast.File, found func(token.Position, string)) *orderCheck {
	c := &orderCheck{places: files, changing: map[string]bool{}, closures: map[*ast.Object]map[*ast.Object]bool{}, found: found}
	for _, file := range all {
		for _, d := range file.Decls {
			if f, ok := d.(*ast.FuncDecl); ok && f.Recv != nil {
				if _, ok := f.Recv.List[0].Type.(*ast.StarExpr); ok {
					c.changing[f.Name.Name] = true
				}
			}
		}
	}
	for _, file := range all {
		ast.Inspect(file, func(n ast.Node) bool {
			if a, ok := n.(*ast.AssignStmt); ok && len(a.Lhs) == len(a.Rhs) {
				for i, right := range a.Rhs {
					name, isName := a.Lhs[i].(*ast.Ident)
					if f, ok := right.(*ast.FuncLit); ok && isName && name.Obj != nil {
						c.closures[name.Obj] = c.writtenBy(f)
					}
				}
			}
			return true
		})
	}
	return c
}

// rootName: the variable in which x, x.f, x[i] or *x lies.
func rootName(e ast.Expr) *ast.Object {
	for {
		switch x := e.(type) {
		case *ast.Ident:
			return x.Obj
		case *ast.SelectorExpr:
			e = x.X
		case *ast.IndexExpr:
			e = x.X
		case *ast.StarExpr:
			e = x.X
		case *ast.ParenExpr:
			e = x.X
		default:
			return nil
		}
	}
}

// writtenBy: the variables from outside of it.
func (c *orderCheck) writtenBy(f *ast.FuncLit) map[*ast.Object]bool {
	written := map[*ast.Object]bool{}
	add := func(e ast.Expr) {
		if o := rootName(e); o != nil && (o.Pos() < f.Pos() || o.Pos() >= f.End()) {
			written[o] = true
		}
	}
	ast.Inspect(f.Body, func(n ast.Node) bool {
		switch x := n.(type) {
		case *ast.AssignStmt:
			for _, left := range x.Lhs {
				add(left)
			}
		case *ast.IncDecStmt:
			add(x.X)
		case *ast.CallExpr:
			if s, ok := x.Fun.(*ast.SelectorExpr); ok && c.changing[s.Sel.Name] {
				add(s.X)
			}
		}
		return true
	})
	return written
}

// writtenIn: what a call writes, by the closure that it calls or is given, or by its receiver.
func (c *orderCheck) writtenIn(call *ast.CallExpr) map[*ast.Object]bool {
	written := map[*ast.Object]bool{}
	for _, e := range append([]ast.Expr{call.Fun}, call.Args...) {
		some := map[*ast.Object]bool{}
		switch x := e.(type) {
		case *ast.Ident:
			some = c.closures[x.Obj]
		case *ast.FuncLit:
			some = c.writtenBy(x)
		case *ast.SelectorExpr:
			if o := rootName(x.X); o != nil && c.changing[x.Sel.Name] {
				some[o] = true
			}
		}
		for o := range some {
			written[o] = true
		}
	}
	return written
}

// statement looks at the expressions of one statement, which Go evaluates together.
func (c *orderCheck) statement(list ...ast.Node) {
	var calls []*ast.CallExpr
	var reads []*ast.Ident
	for _, n := range list {
		ast.Inspect(n, func(n ast.Node) bool {
			switch x := n.(type) {
			case *ast.FuncLit:
				return false
			case *ast.CallExpr:
				calls = append(calls, x)
			case *ast.Ident:
				reads = append(reads, x)
			}
			return true
		})
	}
	for _, call := range calls {
		written := c.writtenIn(call)
		for _, read := range reads {
			if outside := read.Pos() < call.Pos() || read.Pos() >= call.End(); outside && read.Obj != nil && written[read.Obj] {
				c.found(c.places.Position(read.Pos()), read.Name)
			}
		}
	}
}

func (c *orderCheck) file(file *ast.File) {
	ast.Inspect(file, func(n ast.Node) bool {
		switch x := n.(type) {
		case *ast.ReturnStmt:
			c.statement(nodes(x.Results)...)
		case *ast.ExprStmt:
			c.statement(x.X)
		case *ast.SendStmt:
			c.statement(x.Chan, x.Value)
		case *ast.AssignStmt:
			list := nodes(x.Rhs)
			for _, left := range x.Lhs {
				if _, ok := left.(*ast.Ident); !ok || x.Tok != token.ASSIGN && x.Tok != token.DEFINE {
					list = append(list, left)
				}
			}
			c.statement(list...)
		case *ast.ValueSpec:
			c.statement(nodes(x.Values)...)
		case *ast.IfStmt:
			c.statement(x.Cond)
		case *ast.CaseClause:
			c.statement(nodes(x.List)...)
		case *ast.RangeStmt:
			c.statement(x.X)
		case *ast.ForStmt:
			if x.Cond != nil {
				c.statement(x.Cond)
			}
		}
		return true
	})
}

func nodes(list []ast.Expr) []ast.Node {
	var all []ast.Node
	for _, e := range list {
		all = append(all, e)
	}
	return all
}

func TestNothingHangsOnTheOrderOfEvaluation(t *testing.T) {
	names, err := filepath.Glob("../impl/*.go")
	if err != nil || len(names) == 0 {
		t.Fatal("no program", err)
	}
	places := token.NewFileSet()
	var all []*ast.File
	for _, name := range names {
		file, err := parser.ParseFile(places, name, nil, 0)
		if err != nil {
			t.Fatal(err)
		}
		all = append(all, file)
	}
	c := newOrderCheck(places, all, func(place token.Position, name string) {
		t.Errorf("%s: %s is read in the statement of a call that writes it", place, name)
	})
	for _, file := range all {
		c.file(file)
	}
}

// The check itself: what it finds and what it lets pass.
func TestOrderCheck(t *testing.T) {
	const head = "package p\ntype reader struct{ rest string }\nfunc (r *reader) take() string { r.rest = r.rest[1:]; return r.rest }\nfunc with(f func()) bool { f(); return true }\n"
	for body, want := range map[string]int{
		"n := 0; next := func() int { n++; return n }; return next(), n":                                  1,
		"n := 0; next := func() int { n++; return n }; return n, next()":                                  1,
		"n := 0; next := func() int { n++; return n }; return next() + n, 0":                              1,
		"n := 0; next := func() int { n++; return n }; m := next(); return m, n":                          0,
		"n := 0; next := func() int { n++; return n }; n = next(); return n, n":                           0,
		"n := 0; next := func() int { n++; return n }; n += next(); return n, n":                          1,
		"n := 0; next := func() int { n++; return n }; if next() > n { return n, n }; return 0, 0":        1,
		"n := 0; next := func() int { m := n; m++; return m }; return next(), n":                          0,
		"var l []int; var f func(); f = func() { l = append(l, 1) }; f(); return len(l), 0":               0,
		"var l []int; f := func() int { l[0] = 1; return 1 }; return f(), l[0]":                           1,
		"r := reader{}; return len(r.take()), len(r.rest)":                                                1,
		"r := reader{}; s := r.take(); return len(s), len(r.rest)":                                        0,
		"r := reader{}; f := func() int { return len(r.take()) }; return f(), len(r.rest)":                1,
		"n := 0; if with(func() { n = 1 }) && n > 0 { return n, 0 }; return 0, 0":                         1,
		"n := 0; if with(func() { n = 1 }) { return n, 0 }; return 0, 0":                                  0,
		"n := 0; f := func() int { n = 1; return 1 }; for n < f() { return n, 0 }; return 0, 0":           1,
		"n := 0; f := func() int { n = 1; return 1 }; switch { case n == f(): return n, 0 }; return 0, 0": 1,
	} {
		places := token.NewFileSet()
		file, err := parser.ParseFile(places, "p.go", head+"func asked() (int, int) { "+body+" }", 0)
		if err != nil {
			t.Fatal(err)
		}
		count := 0
		newOrderCheck(places, []*ast.File{file}, func(token.Position, string) { count++ }).file(file)
		if count != want {
			t.Errorf("%s: %d found; want %d", body, count, want)
		}
	}
}
