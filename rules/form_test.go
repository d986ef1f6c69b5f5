package rules

import (
	"bytes"
	"go/ast"
	"go/format"
	"go/parser"
	"go/token"
	"go/types"
	"os"
	"path/filepath"
	"slices"
	"strconv"
	"strings"
	"testing"
)

// layers are the packages of the map, each above those that it may lean on. (A package of ours beside them is to be
// laid here where its users are above it.)
var layers = []string{
	"api", "circle", "cover", "octet", "record", "box", "message", "dice", "pool", "shelf", "shadow", "ring", "links", "greedy",
	"density", "estimate", "sample", "balance", "gather", "cursor", "hub", "node", "client", "world", "model", "audit", "script",
}

// library is what may be imported of it.
var library = []string{
	"bytes", "cmp", "container/heap", "errors", "iter", "maps", "math", "math/bits", "slices", "sort", "strconv", "strings",
	"sync", "sync/atomic", "unicode", "unicode/utf8",
}

// parts are what of a library package may be used, where that is not all.
var parts = map[string][]string{"sync": {"Mutex", "RWMutex", "WaitGroup", "Once"}, "iter": {"Seq", "Seq2"}}

// mostLines is how long a function may be: some 60.
const mostLines = 65

type source struct {
	layer int
	path  string
	text  []byte
	file  *ast.File
	fset  *token.FileSet
}

// sources reads the program's files, but not its tests.
func sources(t *testing.T) []source {
	t.Helper()
	var l []source
	for i, layer := range layers {
		paths, err := filepath.Glob(filepath.Join("..", layer, "*"))
		if err != nil || len(paths) == 0 {
			t.Fatalf("package %s: no files (%v)", layer, err)
		}
		for _, path := range paths {
			if strings.HasSuffix(path, "_test.go") {
				continue
			}
			if !strings.HasSuffix(path, ".go") {
				t.Errorf("%s: not a Go file", path)
				continue
			}
			s := source{layer: i, path: path, fset: token.NewFileSet()}
			if s.text, err = os.ReadFile(path); err != nil {
				t.Fatal(err)
			}
			if s.file, err = parser.ParseFile(s.fset, path, s.text, parser.ParseComments); err != nil {
				t.Fatal(err)
			}
			l = append(l, s)
		}
	}
	return l
}

func TestImports(t *testing.T) {
	for _, s := range sources(t) {
		for _, spec := range s.file.Imports {
			path, err := strconv.Unquote(spec.Path.Value)
			if err != nil {
				t.Fatal(err)
			}
			own, ok := strings.CutPrefix(path, "petasos/")
			if !ok {
				if !slices.Contains(library, path) {
					t.Errorf("%s: %s may not be imported", s.path, path)
				}
				continue
			}
			if i := slices.Index(layers, own); i < 0 || i >= s.layer {
				t.Errorf("%s: leans on %s, which is not below it", s.path, own)
			}
		}
	}
}

func TestParts(t *testing.T) {
	for _, s := range sources(t) {
		ast.Inspect(s.file, func(n ast.Node) bool {
			x, ok := n.(*ast.SelectorExpr)
			if !ok {
				return true
			}
			if p, ok := x.X.(*ast.Ident); ok && parts[p.Name] != nil && p.Obj == nil && !slices.Contains(parts[p.Name], x.Sel.Name) {
				t.Errorf("%s: %s.%s may not be used", s.path, p.Name, x.Sel.Name)
			}
			return true
		})
	}
}

func TestLayout(t *testing.T) {
	for _, s := range sources(t) {
		if b, err := format.Source(s.text); err != nil || !bytes.Equal(b, s.text) {
			t.Errorf("%s: not gofmt's layout (%v)", s.path, err)
		}
		for _, g := range s.file.Comments {
			for _, c := range g.List {
				if strings.HasPrefix(c.Text, "//go:") || strings.HasPrefix(c.Text, "// +build") {
					t.Errorf("%s: the line %s", s.path, c.Text)
				}
			}
		}
		for _, d := range s.file.Decls {
			if f, ok := d.(*ast.FuncDecl); ok {
				if n := s.fset.Position(f.End()).Line - s.fset.Position(f.Pos()).Line + 1; n > mostLines {
					t.Errorf("%s: %s has %d lines", s.path, f.Name.Name, n)
				}
			}
		}
	}
}

// TestVariables: at package level only errors and tables stand, written out where they are declared.
func TestVariables(t *testing.T) {
	for _, s := range sources(t) {
		for _, d := range s.file.Decls {
			if f, ok := d.(*ast.FuncDecl); ok && f.Recv == nil && f.Name.Name == "init" {
				t.Errorf("%s: func init", s.path)
			}
			g, ok := d.(*ast.GenDecl)
			if !ok || g.Tok != token.VAR {
				continue
			}
			for _, spec := range g.Specs {
				v := spec.(*ast.ValueSpec)
				if len(v.Values) != len(v.Names) {
					t.Errorf("%s: %s has no value of its own", s.path, v.Names[0].Name)
				}
				for i, value := range v.Values {
					if !written(value) {
						t.Errorf("%s: %s is neither an error nor a table", s.path, v.Names[min(i, len(v.Names)-1)].Name)
					}
				}
			}
		}
	}
}

// written tells whether a value may stand at package level.
func written(value ast.Expr) bool {
	if c, ok := value.(*ast.CallExpr); ok {
		if types.ExprString(c.Fun) != "errors.New" || len(c.Args) != 1 {
			return false
		}
		text, ok := c.Args[0].(*ast.BasicLit)
		return ok && text.Kind == token.STRING
	}
	if _, ok := value.(*ast.CompositeLit); !ok {
		return false
	}
	good := true
	ast.Inspect(value, func(n ast.Node) bool {
		switch n.(type) {
		case *ast.MapType, *ast.FuncLit, *ast.CallExpr, *ast.StarExpr:
			good = false
		}
		return good
	})
	return good
}

// TestModule: nothing is taken from outside.
func TestModule(t *testing.T) {
	b, err := os.ReadFile("../go.mod")
	if err != nil {
		t.Fatal(err)
	}
	if got, want := strings.Fields(string(b)), []string{"module", "petasos", "go", "1.27"}; !slices.Equal(got, want) {
		t.Errorf("go.mod: %v; want %v", got, want)
	}
	if _, err := os.Stat("../go.sum"); err == nil {
		t.Error("there is a go.sum")
	}
}
