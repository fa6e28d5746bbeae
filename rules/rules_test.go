// Package rules: tests that the program keeps to its small part of Go, as far as its texts tell.
package rules

import (
	"bytes"
	"go/ast"
	"go/format"
	"go/parser"
	"go/token"
	"os"
	"path/filepath"
	"strings"
	"testing"
)

// Folders by these names are laid beside the program by others, or have tests alone.
func isForeign(name string) bool {
	switch name {
	case "api", "rules", "sharedtests", "form", "try", "testdata":
		return true
	}
	return strings.HasPrefix(name, ".") || name != "slim" && strings.HasPrefix(name, "slim")
}

func programFiles(t *testing.T) []string {
	folders, err := os.ReadDir("..")
	if err != nil {
		t.Fatal(err)
	}
	files := []string{}
	for _, folder := range folders {
		if !folder.IsDir() || isForeign(folder.Name()) {
			continue
		}
		found, err := filepath.Glob(filepath.Join("..", folder.Name(), "*"))
		if err != nil {
			t.Fatal(err)
		}
		files = append(files, found...)
	}
	return files
}

func TestLanguage(t *testing.T) {
	checked := 0
	for _, path := range programFiles(t) {
		if strings.HasSuffix(path, "_test.go") {
			continue
		}
		if !strings.HasSuffix(path, ".go") {
			t.Errorf("%s lies beside the Go files", path)
			continue
		}
		text, err := os.ReadFile(path)
		if err != nil {
			t.Fatal(err)
		}
		for _, fault := range faults(path, text) {
			t.Error(fault)
		}
		checked++
	}
	if checked < 5 {
		t.Errorf("only %d files were found", checked)
	}
}

func faults(path string, text []byte) []string {
	set := token.NewFileSet()
	file, err := parser.ParseFile(set, path, text, parser.ParseComments)
	if err != nil {
		return []string{err.Error()}
	}
	out := []string{}
	tell := func(at token.Pos, what string) { out = append(out, set.Position(at).String()+": "+what) }
	laid, err := format.Source(text)
	if err != nil || !bytes.Equal(laid, text) {
		tell(file.Pos(), "not in gofmt's layout")
	}
	if bytes.Contains(text, []byte("//go:")) {
		tell(file.Pos(), "a //go: line")
	}
	for _, one := range file.Imports {
		if one.Path.Value != `"strconv"` && !strings.HasPrefix(one.Path.Value, `"slim/`) {
			tell(one.Pos(), "imports "+one.Path.Value)
		}
	}
	for _, declared := range file.Decls {
		if what := declarationFault(set, declared); what != "" {
			tell(declared.Pos(), what)
		}
	}
	ast.Inspect(file, func(node ast.Node) bool {
		if what := nodeFault(node); what != "" {
			tell(node.Pos(), what)
		}
		return true
	})
	return out
}

func declarationFault(set *token.FileSet, declared ast.Decl) string {
	switch d := declared.(type) {
	case *ast.FuncDecl:
		if set.Position(d.End()).Line-set.Position(d.Pos()).Line >= 42 {
			return "a long function"
		}
	case *ast.GenDecl:
		if d.Tok != token.VAR {
			return ""
		}
		for _, spec := range d.Specs {
			if !isTable(spec.(*ast.ValueSpec)) {
				return "a variable of the package that is no table"
			}
		}
	}
	return ""
}

func isTable(spec *ast.ValueSpec) bool {
	if len(spec.Names) != 1 || len(spec.Values) != 1 {
		return false
	}
	made, ok := spec.Values[0].(*ast.CompositeLit)
	if !ok {
		return false
	}
	array, ok := made.Type.(*ast.ArrayType)
	return ok && array.Len != nil
}

func nodeFault(node ast.Node) string {
	switch n := node.(type) {
	case *ast.GoStmt, *ast.SelectStmt, *ast.ChanType, *ast.SendStmt:
		return "a goroutine or channel"
	case *ast.DeferStmt:
		return "defer"
	case *ast.MapType:
		return "a map"
	case *ast.InterfaceType:
		return "an interface"
	case *ast.FuncLit:
		return "a closure"
	case *ast.FuncType:
		if n.TypeParams != nil {
			return "generics"
		}
	case *ast.BasicLit:
		if n.Kind == token.FLOAT || n.Kind == token.IMAG {
			return "a float"
		}
	case *ast.AssignStmt:
		return assignmentFault(n)
	case *ast.Ident:
		switch n.Name {
		case "panic", "recover", "cap", "any", "error", "float32", "float64", "complex64", "complex128":
			return n.Name
		}
	}
	return ""
}

func assignmentFault(n *ast.AssignStmt) string {
	if len(n.Lhs) < 2 {
		return ""
	}
	for _, target := range n.Lhs {
		if _, ok := target.(*ast.Ident); !ok {
			return "several targets that are not plain variables"
		}
	}
	return ""
}

func TestFaults(t *testing.T) {
	for _, text := range []string{
		"import \"os\"\n", "var x = 1\n", "var x = []int{1}\n", "var x map[int]int\n", "func f() { panic(1) }\n",
		"func f() { go f() }\n", "func f() { defer f() }\n", "func f() { x := func() {} }\n", "var x = [...]float64{1}\n",
		"func f(x any) {}\n", "func f[T int](x T) {}\n", "func f() { x.a, x.b = 1, 2 }\n", "func  f() {}\n", "func f() { x := 1.5 }\n",
		"func f() {" + strings.Repeat("\n\tf()", 41) + "\n}\n", "type x interface{ f() }\n", "//go:noinline\nfunc f() {}\n",
	} {
		if len(faults("x.go", []byte("package x\n\n"+text))) == 0 {
			t.Errorf("nothing was found in %q", text)
		}
	}
	if found := faults("x.go", []byte("package x\n\nvar x = [...]int{1}\n")); len(found) > 0 {
		t.Errorf("a table is refused: %v", found)
	}
}
