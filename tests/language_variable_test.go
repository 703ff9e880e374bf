package tests

import (
	"go/ast"
	"go/build"
	"go/importer"
	"go/parser"
	"go/token"
	"go/types"
	"os/exec"
	"path/filepath"
	"strings"
	"testing"
)

// variables are the package-level variables of a package, and what is done with them.
type variables struct {
	info   *types.Info
	known  map[types.Object]bool
	faults []string
}

// TestPackageVariables holds the program against rules 3a and 3b of the language page.
func TestPackageVariables(t *testing.T) {
	names, err := filepath.Glob("../impl/*.go")
	if err != nil || len(names) == 0 {
		t.Fatal("no program", err)
	}
	fset := token.NewFileSet()
	var files []*ast.File
	for _, name := range names {
		file, err := parser.ParseFile(fset, name, nil, parser.SkipObjectResolution)
		if err != nil {
			t.Fatal(err)
		}
		files = append(files, file)
	}
	for _, fault := range variableFaults(t, fset, files) {
		t.Error(fault)
	}
}

// TestPackageVariablesThatAreNone shows that the test above would find what the rules bar.
func TestPackageVariablesThatAreNone(t *testing.T) {
	for _, c := range []struct {
		text string
		good bool
	}{
		{`var short = [3]int{1, 2, 3}; func f() int { return short[1] }`, true},
		{`var rows = []struct{ a int; b string }{{1, "x"}}; func f() int { return rows[0].a }`, true},
		{`import "errors"; var errShort = errors.New("short"); func f(e error) bool { return e == errShort }`, true},
		{`const text = "text"; func f() string { return text }`, true},
		{`var none int`, false},
		{`var text = "text"`, false},
		{`var share = 0.5`, false},
		{`var known = map[int]int{1: 2}`, false},
		{`var call = func() {}`, false},
		{`var calls = []func(){f}; func f() {}`, false},
		{`var made = f(); func f() int { return 1 }`, false},
		{`var made = []int{f()}; func f() int { return 1 }`, false},
		{`var first = [2]int{1, 2}; var second = [1]int{first[0]}`, false},
		{`var short = [3]int{1, 2, 3}; var to = &short`, false},
		{`var short = [3]int{1, 2, 3}; func f() { short[1] = 4 }`, false},
		{`var count = 1; func f() { count++ }`, false},
		{`var count = 1; func f() { count, _ = 2, 3 }`, false},
		{`var count = 1; func f() { for count = range 3 { } }`, false},
		{`var short = [3]int{1, 2, 3}; func f() *int { return &short[1] }`, false},
		{`var short = [3]int{1, 2, 3}; func f() []int { return short[:] }`, false},
		{`type s struct{ n int }; var kept = s{}; func (x *s) add() { x.n++ }; func f() { kept.add() }`, false},
		{`type s struct{ n int }; var kept = s{}; func (x *s) add() { x.n++ }; func f() func() { return kept.add }`, false},
		{`import "sync"; type s struct{ once sync.Once }; var kept = s{}; func f() { kept.once.Do(f) }`, false},
	} {
		fset := token.NewFileSet()
		file, err := parser.ParseFile(fset, "text.go", "package impl; "+c.text, parser.SkipObjectResolution)
		if err != nil {
			t.Fatal(c.text, err)
		}
		if faults := variableFaults(t, fset, []*ast.File{file}); (len(faults) == 0) != c.good {
			t.Error(c.text, "has the faults", faults)
		}
	}
}

func variableFaults(t *testing.T, fset *token.FileSet, files []*ast.File) []string {
	if build.Default.GOROOT == "" {
		out, err := exec.Command("go", "env", "GOROOT").Output()
		if err != nil {
			t.Fatal(err)
		}
		build.Default.GOROOT = strings.TrimSpace(string(out))
	}
	v := &variables{known: map[types.Object]bool{}, info: &types.Info{
		Types:      map[ast.Expr]types.TypeAndValue{},
		Uses:       map[*ast.Ident]types.Object{},
		Defs:       map[*ast.Ident]types.Object{},
		Selections: map[*ast.SelectorExpr]*types.Selection{},
	}}
	c := types.Config{Importer: importer.ForCompiler(fset, "source", nil)}
	if _, err := c.Check("impl", fset, files, v.info); err != nil {
		t.Fatal(err)
	}
	for _, file := range files {
		for _, d := range file.Decls {
			if g, ok := d.(*ast.GenDecl); ok && g.Tok == token.VAR {
				v.declared(g)
			}
		}
	}
	for _, file := range files {
		ast.Inspect(file, v.used)
	}
	return v.faults
}

func (v *variables) fault(name, text string) { v.faults = append(v.faults, name+" "+text) }

func (v *variables) declared(g *ast.GenDecl) {
	for _, s := range g.Specs {
		spec := s.(*ast.ValueSpec)
		for i, name := range spec.Names {
			v.known[v.info.Defs[name]] = true
			if i >= len(spec.Values) {
				v.fault(name.Name, "has no value of its own")
				continue
			}
			switch x := v.info.Defs[name].Type().Underlying().(type) {
			case *types.Basic:
				if x.Info()&(types.IsString|types.IsFloat|types.IsComplex) != 0 {
					v.fault(name.Name, "is a text or a float")
				}
			case *types.Map, *types.Pointer, *types.Signature, *types.Chan:
				v.fault(name.Name, "is a map, a pointer, a function or a channel")
			}
			v.written(name.Name, spec.Values[i])
		}
	}
}

// written asks that a starting value is written out: no call but errors.New, no other variable.
func (v *variables) written(name string, value ast.Expr) {
	if c, ok := value.(*ast.CallExpr); ok && types.ExprString(c.Fun) == "errors.New" && len(c.Args) == 1 {
		value = c.Args[0]
	}
	ast.Inspect(value, func(n ast.Node) bool {
		switch x := n.(type) {
		case *ast.CallExpr:
			if !v.info.Types[x.Fun].IsType() {
				v.fault(name, "is made by a call")
			}
		case *ast.FuncLit:
			v.fault(name, "is made of a function")
			return false
		case *ast.Ident:
			switch v.info.Uses[x].(type) {
			case *types.Var:
				if !v.info.Uses[x].(*types.Var).IsField() {
					v.fault(name, "names another variable")
				}
			case *types.Func:
				v.fault(name, "names a function")
			}
		}
		return true
	})
}

func (v *variables) used(n ast.Node) bool {
	switch x := n.(type) {
	case *ast.AssignStmt:
		for _, left := range x.Lhs {
			v.barred(left, "is assigned again")
		}
	case *ast.IncDecStmt:
		v.barred(x.X, "is assigned again")
	case *ast.RangeStmt:
		v.barred(x.Key, "is assigned again")
		v.barred(x.Value, "is assigned again")
	case *ast.UnaryExpr:
		if x.Op == token.AND {
			v.barred(x.X, "has its address taken")
		}
	case *ast.SliceExpr:
		if _, ok := v.info.Types[x.X].Type.Underlying().(*types.Array); ok {
			v.barred(x.X, "has its address taken by a slice")
		}
	case *ast.SelectorExpr:
		if s := v.info.Selections[x]; s != nil && s.Kind() == types.MethodVal {
			r := s.Obj().(*types.Func).Signature().Recv().Type()
			if _, ok := r.(*types.Pointer); ok {
				v.barred(x.X, "has its address taken by a method")
			}
		}
	}
	return true
}

// barred walks from a part to the variable that it is a part of.
func (v *variables) barred(e ast.Expr, text string) {
	for {
		switch x := e.(type) {
		case *ast.Ident:
			if v.known[v.info.Uses[x]] {
				v.fault(x.Name, text)
			}
			return
		case *ast.ParenExpr:
			e = x.X
		case *ast.IndexExpr:
			e = x.X
		case *ast.SliceExpr:
			e = x.X
		case *ast.SelectorExpr:
			e = x.X
		default:
			return
		}
	}
}
