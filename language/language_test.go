// Package language holds no program: its tests hold the layers' code against the language that it keeps to, and against the ways that it leans on.
package language

import (
	"bytes"
	"errors"
	"go/ast"
	"go/format"
	"go/parser"
	"go/token"
	"go/types"
	"os"
	"path/filepath"
	"slices"
	"strconv"
	"strings"
	"testing"
)

const mostLines = 60

// layers are the packages of the program, each below those behind it. (Packages within and reach are no layers of the document; those that go down a tree share them.)
func layers() []string {
	return strings.Fields("api within pack sums tuple disk page meta node reach graft free trunk climb growth commit store proof span clash audit rings ledger client pins diff follow rows query wire serve hub script play")
}

// library are the packages that may be imported beside the program's own.
func library() []string {
	return strings.Fields("bytes cmp container/heap errors iter maps math math/bits slices sort strconv strings sync sync/atomic unicode unicode/utf8")
}

// each calls do with every file of a layer that is no test.
func each(t *testing.T, layer string, do func(name string, text []byte, set *token.FileSet, file *ast.File)) {
	t.Helper()
	names, _ := filepath.Glob(filepath.Join("..", layer, "*.go"))
	if len(names) == 0 {
		t.Errorf("%s has no files", layer)
	}
	for _, name := range names {
		if strings.HasSuffix(name, "_test.go") {
			continue
		}
		text, err := os.ReadFile(name)
		if err != nil {
			t.Fatal(err)
		}
		set := token.NewFileSet()
		file, err := parser.ParseFile(set, name, text, parser.ParseComments)
		if err != nil {
			t.Fatal(err)
		}
		do(name, text, set, file)
	}
}

// standsOn tells which layers one may call beside api, where its chapter names them.
func standsOn() map[string][]string {
	return map[string][]string{"within": {}, "pack": {}, "sums": {}, "tuple": {"pack"}, "disk": {}, "page": {"pack", "sums"}, "meta": {"pack", "sums"}, "node": {"pack", "sums"}, "reach": {"within", "sums", "node"}, "graft": {"node"}, "free": {"pack", "page"}, "trunk": {"reach", "page", "node", "graft"}, "climb": {"within", "reach", "node", "graft", "trunk"}, "growth": {"node", "graft", "trunk"}, "commit": {"disk", "page", "meta", "node", "free", "trunk", "growth"}, "store": {"disk", "trunk", "climb", "growth", "commit"}, "proof": {"reach", "pack", "node", "graft", "trunk"}, "span": {"within", "reach", "pack", "node", "trunk"}, "clash": {"within", "reach", "sums", "node", "trunk", "proof", "span"}}
}

func TestImports(t *testing.T) {
	all := layers()
	for i, layer := range all {
		each(t, layer, func(name string, _ []byte, _ *token.FileSet, file *ast.File) {
			for _, x := range file.Imports {
				path, _ := strconv.Unquote(x.Path.Value)
				own, ok := strings.CutPrefix(path, "heartwood/")
				if ok && !slices.Contains(all[:i], own) {
					t.Errorf("%s imports %s, which is not below it", name, path)
				}
				if below, told := standsOn()[layer]; ok && told && own != "api" && !slices.Contains(below, own) {
					t.Errorf("%s imports %s, and does not stand on it", name, path)
				}
				if !ok && !slices.Contains(library(), path) {
					t.Errorf("%s imports %s", name, path)
				}
			}
		})
	}
}

func TestLayout(t *testing.T) {
	for _, layer := range layers() {
		each(t, layer, func(name string, text []byte, set *token.FileSet, file *ast.File) {
			if laid, err := format.Source(text); err != nil || !bytes.Equal(laid, text) {
				t.Errorf("%s is not laid out as gofmt does it", name)
			}
			for _, group := range file.Comments {
				for _, c := range group.List {
					if strings.HasPrefix(c.Text, "//go:") || strings.HasPrefix(c.Text, "// +build") {
						t.Errorf("%s: %s", name, c.Text)
					}
				}
			}
			for _, d := range file.Decls {
				f, ok := d.(*ast.FuncDecl)
				if ok && set.Position(f.End()).Line-set.Position(f.Pos()).Line >= mostLines {
					t.Errorf("%s: %s is longer than %d lines", name, f.Name.Name, mostLines)
				}
				if ok && f.Recv == nil && f.Name.Name == "init" {
					t.Errorf("%s has an init", name)
				}
			}
		})
	}
}

// loaded are the layers whose types are known by now: an importer of the project's own packages alone.
type loaded struct {
	t    *testing.T
	set  *token.FileSet
	info *types.Info
	had  map[string]*types.Package
}

// Import answers a layer's package. What is of the library is not there: the ways ask for types of the project's own alone.
func (l *loaded) Import(path string) (*types.Package, error) {
	layer, own := strings.CutPrefix(path, "heartwood/")
	if !own {
		return nil, errors.New("not of the project: " + path)
	}
	if l.had[layer] == nil {
		l.check(layer)
	}
	return l.had[layer], nil
}

// check has a layer's types told, and answers its files.
func (l *loaded) check(layer string) []*ast.File {
	var files []*ast.File
	each(l.t, layer, func(name string, text []byte, _ *token.FileSet, _ *ast.File) {
		file, err := parser.ParseFile(l.set, name, text, 0)
		if err != nil {
			l.t.Fatal(err)
		}
		files = append(files, file)
	})
	config := types.Config{Importer: l, Error: func(error) {}}
	l.had[layer], _ = config.Check("heartwood/"+layer, l.set, files, l.info)
	return files
}

// checked answers a layer's files, and the types of what it is made of.
func checked(t *testing.T, layer string) ([]*ast.File, *types.Info) {
	t.Helper()
	info := &types.Info{Types: map[ast.Expr]types.TypeAndValue{}, Instances: map[*ast.Ident]types.Instance{}, Selections: map[*ast.SelectorExpr]*types.Selection{}}
	l := &loaded{t, token.NewFileSet(), info, map[string]*types.Package{}}
	return l.check(layer), info
}

// under answers the type of an expression, through its name.
func under(info *types.Info, e ast.Expr) types.Type {
	if x := info.Types[e].Type; x != nil {
		return x.Underlying()
	}
	return nil
}

// ways answers which of the language's ways that the built layers lean on a layer has.
func ways(t *testing.T, layer string) map[string]int {
	files, info := checked(t, layer)
	got := map[string]int{}
	for _, file := range files {
		ast.Inspect(file, func(n ast.Node) bool {
			switch x := n.(type) {
			case *ast.FuncDecl:
				ofFunction(info, x, got)
			case *ast.FuncLit:
				got["closure"]++
			case *ast.StructType:
				ofStruct(info, x, got)
			case *ast.MapType:
				got["map"]++
			case *ast.DeferStmt:
				if f, closure := x.Call.Fun.(*ast.FuncLit); closure && calls(f.Body, "recover") {
					got["recover in a deferred closure"]++
				}
			case *ast.CallExpr:
				if x.Ellipsis.IsValid() {
					got["list in the place of variadic things"]++
				}
				if f, ok := x.Fun.(*ast.Ident); ok && info.Types[f].IsBuiltin() {
					got[f.Name]++
				}
				if isPanicOfOwn(info, layer, x) {
					got["panic of a type of its own"]++
				}
				_, array := under(info, x.Fun).(*types.Array)
				if array && info.Types[x.Fun].IsType() && len(x.Args) == 1 {
					if _, slice := under(info, x.Args[0]).(*types.Slice); slice {
						got["slice to array"]++
					}
				}
			case *ast.RangeStmt:
				if p, ok := under(info, x.X).(*types.Pointer); ok {
					if _, array := p.Elem().Underlying().(*types.Array); array {
						got["range over a pointer to an array"]++
					}
				}
			case *ast.CompositeLit:
				if isListOfClosures(info, x) {
					got["list of closures"]++
				}
				if isMapOfMethodExpressions(info, x) {
					got["map of method expressions"]++
				}
			case *ast.SwitchStmt:
				if b, ok := under(info, x.Tag).(*types.Basic); ok && b.Kind() == types.Uint8 {
					got["switch on a byte"]++
				}
			case *ast.SelectorExpr:
				ofSelection(info, x, got)
			case *ast.BinaryExpr:
				_, of := under(info, x.X).(*types.Struct)
				if of && (x.Op == token.EQL || x.Op == token.NEQ) {
					got["structs compared"]++
				}
			case *ast.SliceExpr:
				if x.Slice3 {
					got["three-index slice"]++
				}
			case *ast.BranchStmt:
				if x.Label != nil {
					got["label"]++
				}
			case *ast.AssignStmt:
				if x.Tok != token.ASSIGN && x.Tok != token.DEFINE {
					got["operator assignment"]++
				}
				if callsItself(x) {
					got["closure that calls itself"]++
				}
			}
			return true
		})
	}
	return got
}

// isPanicOfOwn tells whether a call gives up by a panic with a type that the layer made for it.
func isPanicOfOwn(info *types.Info, layer string, x *ast.CallExpr) bool {
	if types.ExprString(x.Fun) != "panic" {
		return false
	}
	of, named := info.Types[x.Args[0]].Type.(*types.Named)
	return named && of.Obj().Pkg() != nil && of.Obj().Pkg().Path() == "heartwood/"+layer
}

// isListOfClosures tells whether a literal is a list of functions, each of them a literal.
func isListOfClosures(info *types.Info, x *ast.CompositeLit) bool {
	list, ok := under(info, x).(*types.Slice)
	if !ok {
		return false
	}
	_, functions := list.Elem().Underlying().(*types.Signature)
	other := func(e ast.Expr) bool { _, closure := e.(*ast.FuncLit); return !closure }
	return functions && len(x.Elts) > 0 && !slices.ContainsFunc(x.Elts, other)
}

// isMapOfMethodExpressions tells whether a literal is a map of functions, each of them a method expression.
func isMapOfMethodExpressions(info *types.Info, x *ast.CompositeLit) bool {
	if _, ok := under(info, x).(*types.Map); !ok {
		return false
	}
	other := func(e ast.Expr) bool {
		of, ok := e.(*ast.KeyValueExpr).Value.(*ast.SelectorExpr)
		return !ok || info.Selections[of] == nil || info.Selections[of].Kind() != types.MethodExpr
	}
	return len(x.Elts) > 0 && !slices.ContainsFunc(x.Elts, other)
}

// callsItself tells whether an assignment gives a name to a function that calls what has this name.
func callsItself(x *ast.AssignStmt) bool {
	name, named := x.Lhs[0].(*ast.Ident)
	f, closure := x.Rhs[0].(*ast.FuncLit)
	if !named || !closure {
		return false
	}
	return calls(f.Body, name.Name)
}

// calls tells whether a function's body calls what has a name.
func calls(body *ast.BlockStmt, name string) bool {
	is := false
	ast.Inspect(body, func(n ast.Node) bool {
		c, ok := n.(*ast.CallExpr)
		is = is || ok && types.ExprString(c.Fun) == name
		return true
	})
	return is
}

// ownName answers how a function names itself within its body.
func ownName(f *ast.FuncDecl) string {
	if f.Recv == nil || len(f.Recv.List[0].Names) == 0 {
		return f.Name.Name
	}
	return f.Recv.List[0].Names[0].Name + "." + f.Name.Name
}

// ofFunction counts the ways that a function's own face shows.
func ofFunction(info *types.Info, f *ast.FuncDecl, got map[string]int) {
	if f.Type.TypeParams != nil {
		got["generic function"]++
	}
	if calls(f.Body, ownName(f)) {
		got["function that calls itself"]++
	}
	for _, p := range f.Type.Params.List {
		if _, more := p.Type.(*ast.Ellipsis); more {
			got["variadic"]++
		}
		if _, function := under(info, p.Type).(*types.Signature); function {
			got["function that is handed in"]++
		}
	}
	if setsResult(f) {
		got["named result that a deferred closure sets"]++
	}
	if r := f.Type.Results; r != nil && len(r.List) == 1 && len(f.Type.Params.List) == 0 {
		if _, array := under(info, r.List[0].Type).(*types.Array); array {
			got["array that a function makes"]++
		}
	}
}

// setsResult tells whether a function has a deferred function literal that sets one of its named results.
func setsResult(f *ast.FuncDecl) bool {
	var names []string
	if f.Type.Results != nil {
		for _, r := range f.Type.Results.List {
			for _, name := range r.Names {
				names = append(names, name.Name)
			}
		}
	}
	is := false
	ast.Inspect(f.Body, func(n ast.Node) bool {
		d, deferred := n.(*ast.DeferStmt)
		if deferred {
			is = is || slices.ContainsFunc(names, func(name string) bool { return sets(d.Call.Fun, name) })
		}
		return true
	})
	return is
}

// sets tells whether a function literal gives something else to what has a name.
func sets(e ast.Expr, name string) bool {
	f, closure := e.(*ast.FuncLit)
	if !closure {
		return false
	}
	is := false
	ast.Inspect(f.Body, func(n ast.Node) bool {
		x, set := n.(*ast.AssignStmt)
		if set && x.Tok == token.ASSIGN {
			is = is || slices.ContainsFunc(x.Lhs, func(e ast.Expr) bool { return types.ExprString(e) == name })
		}
		return true
	})
	return is
}

// ofStruct counts the types of the program's own that a struct embeds, by themselves or by a pointer.
func ofStruct(info *types.Info, s *ast.StructType, got map[string]int) {
	for _, f := range s.Fields.List {
		if len(f.Names) > 0 {
			continue
		}
		switch under(info, f.Type).(type) {
		case *types.Struct:
			got["embedding"]++
			got["embedding of "+types.ExprString(f.Type)]++
		case *types.Pointer:
			got["embedding of "+types.ExprString(f.Type)]++
		case *types.Interface:
			got["embedding of an interface"]++
		}
	}
}

// ofSelection counts the ways that a name behind another one shows.
func ofSelection(info *types.Info, x *ast.SelectorExpr, got map[string]int) {
	if s := info.Selections[x]; s != nil {
		ofMethod(s, got)
	}
	if of, ok := x.X.(*ast.Ident); ok {
		got[of.Name+"."+x.Sel.Name]++
	}
	if _, generic := info.Instances[x.Sel]; generic {
		got["generic function of another layer"]++
	}
	if _, array := under(info, x).(*types.Array); array && info.Types[x].IsType() {
		got["array of another layer"]++
	}
}

// ofMethod counts the ways by which a method comes to be called.
func ofMethod(s *types.Selection, got map[string]int) {
	switch s.Kind() {
	case types.FieldVal:
		return
	case types.MethodExpr:
		got["method expression"]++
	}
	if len(s.Index()) > 1 {
		got["promoted method"]++
	}
	f, ok := s.Obj().(*types.Func)
	if ok && types.IsInterface(f.Signature().Recv().Type()) {
		got["call through an interface"]++
	}
}

func TestWays(t *testing.T) {
	wanted := map[string][]string{
		"pack":   {"generic function", "function that is handed in", "variadic"},
		"sums":   {"variadic", "slice to array", "range over a pointer to an array", "operator assignment", "array that a function makes"},
		"tuple":  {"variadic", "slice to array", "operator assignment", "math.Float64bits", "math.IsNaN", "math.Signbit"},
		"disk":   {"variadic", "embedding", "promoted method", "copy", "closure"},
		"page":   {"variadic", "embedding of an interface", "promoted method", "call through an interface", "map"},
		"meta":   {"generic function of another layer", "structs compared", "api.SlotBlank", "api.SlotRecord", "api.SlotForeign", "api.SlotSpoilt"},
		"node":   {"closure", "method expression", "generic function of another layer", "switch on a byte", "array of another layer"},
		"graft":  {"generic function", "closure", "iter.Seq2", "label"},
		"free":   {"map", "delete", "label", "variadic", "three-index slice"},
		"trunk":  {"embedding of an interface", "call through an interface", "variadic", "iter.Seq2", "closure that calls itself"},
		"climb":  {"iter.Seq2", "function that calls itself", "function that is handed in", "closure", "embedding of reach.Stop"},
		"growth": {"function that calls itself", "function that is handed in", "closure", "map", "delete", "call through an interface"},
		"commit": {"call through an interface", "embedding of an interface", "list of closures", "map"},
		"store":  {"embedding of *commit.File", "promoted method", "variadic", "map of method expressions"},
		"span":   {"function that calls itself", "panic of a type of its own", "recover in a deferred closure", "closure"},
		"clash":  {"function that is handed in", "function that calls itself", "named result that a deferred closure sets", "recover in a deferred closure", "panic of a type of its own"},
		"proof":  {"panic", "recover in a deferred closure", "variadic", "list in the place of variadic things"},
	}
	for layer, words := range wanted {
		got := ways(t, layer)
		for _, word := range words {
			if got[word] == 0 {
				t.Errorf("%s has no %s", layer, word)
			}
		}
	}
}
