// Package ways_test checks that each layer uses the language features that its chapter's section Ways names.
package ways_test

import (
	"go/ast"
	"go/build"
	"go/importer"
	"go/parser"
	"go/token"
	"go/types"
	"os/exec"
	"path/filepath"
	"strings"
	"testing"
)

const module = "careen/"

// TestWays: each layer that has landed, with the features that its chapter names.
func TestWays(t *testing.T) {
	l := newLoader()
	for layer, wanted := range map[string]string{
		"tide":   "range-string range-function generic-function closure struct-compared label three-index map variadic",
		"jug":    "array array-compared copy map range-function method-value closure label variadic",
		"hull":   "range-function struct-compared method-value label variadic generic-function closure array-compared",
		"berth":  "struct-compared range-function closure label generic-function variadic array-compared method-value",
		"order":  "array range-function closure label map struct-compared generic-function variadic",
		"flag":   "range-string range-function map struct-compared label closure generic-function variadic",
		"gauss":  "array-compared range-function range-integer generic-function closure map label variadic",
		"supply": "array map range-function closure label struct-compared variadic generic-function method-value",
		"sluice": "method-value range-function struct-compared closure label generic-function array variadic",
		"dues":   "array range-function struct-compared generic-function variadic map label closure",
	} {
		if _, err := l.Import(module + layer); err != nil {
			t.Fatal(err)
		}
		used := l.used(layer)
		for feature := range strings.FieldsSeq(wanted) {
			if !used[feature] {
				t.Errorf("package %s does not use: %s", layer, feature)
			}
		}
	}
}

// loader reads the project's packages with their types, and those of the library from its sources.
type loader struct {
	fset    *token.FileSet
	info    *types.Info
	files   map[string][]*ast.File
	loaded  map[string]*types.Package
	library types.Importer
}

func newLoader() *loader {
	if build.Default.GOROOT == "" {
		out, _ := exec.Command("go", "env", "GOROOT").Output()
		build.Default.GOROOT = strings.TrimSpace(string(out))
	}
	fset := token.NewFileSet()
	info := &types.Info{
		Types:      map[ast.Expr]types.TypeAndValue{},
		Uses:       map[*ast.Ident]types.Object{},
		Selections: map[*ast.SelectorExpr]*types.Selection{},
		Instances:  map[*ast.Ident]types.Instance{},
	}
	return &loader{fset, info, map[string][]*ast.File{}, map[string]*types.Package{}, importer.ForCompiler(fset, "source", nil)}
}

func (l *loader) Import(path string) (*types.Package, error) {
	layer, own := strings.CutPrefix(path, module)
	if !own {
		return l.library.Import(path)
	}
	if p := l.loaded[layer]; p != nil {
		return p, nil
	}
	names, err := filepath.Glob(filepath.Join("..", layer, "*.go"))
	if err != nil {
		return nil, err
	}
	for _, name := range names {
		if strings.HasSuffix(name, "_test.go") {
			continue
		}
		file, err := parser.ParseFile(l.fset, name, nil, parser.SkipObjectResolution)
		if err != nil {
			return nil, err
		}
		l.files[layer] = append(l.files[layer], file)
	}
	c := types.Config{Importer: l}
	p, err := c.Check(path, l.fset, l.files[layer], l.info)
	l.loaded[layer] = p
	return p, err
}

// used are the features of a layer's code.
func (l *loader) used(layer string) map[string]bool {
	used := map[string]bool{}
	called := map[ast.Expr]bool{}
	for _, file := range l.files[layer] {
		ast.Inspect(file, func(n ast.Node) bool {
			if call, is := n.(*ast.CallExpr); is {
				called[ast.Unparen(call.Fun)] = true
			}
			if s, is := n.(*ast.SelectorExpr); is && l.isMethodValue(s) && !called[s] {
				used["method-value"] = true
			}
			if id, is := n.(*ast.Ident); is {
				for _, compared := range l.comparedBy(id) {
					used[kind(compared)+"-compared"] = true
				}
			}
			used[l.feature(n)] = true
			return true
		})
	}
	return used
}

// feature is the one that a node by itself shows, or empty.
func (l *loader) feature(n ast.Node) string {
	switch x := n.(type) {
	case *ast.LabeledStmt:
		return "label"
	case *ast.FuncLit:
		return "closure"
	case *ast.MapType:
		return "map"
	case *ast.FuncDecl:
		if x.Type.TypeParams != nil {
			return "generic-function"
		}
	case *ast.Ellipsis:
		if x.Elt != nil {
			return "variadic"
		}
	case *ast.ArrayType:
		if x.Len != nil {
			return "array"
		}
	case *ast.SliceExpr:
		if x.Slice3 {
			return "three-index"
		}
	case *ast.BinaryExpr:
		if x.Op == token.EQL || x.Op == token.NEQ {
			return kind(l.info.TypeOf(x.X)) + "-compared"
		}
	case *ast.RangeStmt:
		return "range-" + kind(l.info.TypeOf(x.X))
	case *ast.Ident:
		if f, is := l.info.Uses[x].(*types.Builtin); is && f.Name() == "copy" {
			return "copy"
		}
	}
	return ""
}

func (l *loader) isMethodValue(s *ast.SelectorExpr) bool {
	selection := l.info.Selections[s]
	return selection != nil && selection.Kind() == types.MethodVal
}

// comparedBy are the types whose values a generic function, if that is what the name stands for, may hold against each other.
func (l *loader) comparedBy(name *ast.Ident) []types.Type {
	f, is := l.info.Uses[name].(*types.Func)
	if !is {
		return nil
	}
	var list []types.Type
	arguments := l.info.Instances[name].TypeArgs
	for i := range arguments.Len() {
		constraint := f.Signature().TypeParams().At(i).Constraint().Underlying().(*types.Interface)
		if constraint.IsComparable() {
			list = append(list, arguments.At(i))
		}
	}
	return list
}

// kind is a type's part of the name of a feature.
func kind(t types.Type) string {
	if t == nil {
		return ""
	}
	switch x := t.Underlying().(type) {
	case *types.Array:
		return "array"
	case *types.Struct:
		return "struct"
	case *types.Signature:
		return "function"
	case *types.Basic:
		if x.Info()&types.IsString != 0 {
			return "string"
		}
		if x.Info()&types.IsInteger != 0 {
			return "integer"
		}
	}
	return ""
}
