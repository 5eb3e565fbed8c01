package tests

import (
	"bytes"
	"go/ast"
	"go/format"
	"go/parser"
	"go/token"
	"os"
	"path/filepath"
	"slices"
	"strconv"
	"strings"
	"testing"
)

const maxFunctionLines = 60

// allowedImports are the standard packages of the language; a package with
// names is allowed with these alone.
var allowedImports = map[string][]string{
	"bytes": nil, "cmp": nil, "container/heap": nil, "errors": nil, "iter": {"Seq", "Seq2"}, "maps": nil,
	"math": nil, "math/bits": nil, "slices": nil, "sort": nil, "strconv": nil, "strings": nil,
	"sync": {"Mutex", "RWMutex", "WaitGroup", "Once"}, "sync/atomic": nil, "unicode": nil, "unicode/utf8": nil,
}

// breaches returns what in a source file the language forbids, as far as its text shows it.
func breaches(source []byte) []string {
	files := token.NewFileSet()
	file, err := parser.ParseFile(files, "", source, parser.ParseComments)
	if err != nil {
		return []string{err.Error()}
	}
	var found []string
	if layout, err := format.Source(source); err != nil || !bytes.Equal(layout, source) {
		found = append(found, "not the layout of gofmt")
	}
	for _, group := range file.Comments {
		for _, c := range group.List {
			if strings.HasPrefix(c.Text, "//go:") || strings.HasPrefix(c.Text, "// +build") {
				found = append(found, "directive "+c.Text)
			}
		}
	}
	for _, i := range file.Imports {
		path, _ := strconv.Unquote(i.Path.Value)
		// Under another name an import would escape nameBreaches.
		if _, ok := allowedImports[path]; !ok || i.Name != nil {
			found = append(found, "import of "+path)
		}
	}
	for _, d := range file.Decls {
		found = append(found, declBreaches(files, d)...)
	}
	found = append(found, recoverBreaches(file)...)
	return append(found, nameBreaches(file)...)
}

// recoverBreaches finds each recover that is not in a deferred function literal.
func recoverBreaches(file *ast.File) []string {
	var found []string
	ast.Inspect(file, func(n ast.Node) bool {
		switch x := n.(type) {
		case *ast.DeferStmt:
			_, isLiteral := x.Call.Fun.(*ast.FuncLit)
			return !isLiteral
		case *ast.CallExpr:
			if f, ok := x.Fun.(*ast.Ident); ok && f.Name == "recover" {
				found = append(found, "recover without a deferred function literal")
			}
		}
		return true
	})
	return found
}

func declBreaches(files *token.FileSet, d ast.Decl) []string {
	var found []string
	switch x := d.(type) {
	case *ast.FuncDecl:
		if files.Position(x.End()).Line-files.Position(x.Pos()).Line >= maxFunctionLines {
			found = append(found, "long function "+x.Name.Name)
		}
	case *ast.GenDecl:
		for _, s := range x.Specs {
			if v, ok := s.(*ast.ValueSpec); ok && x.Tok == token.VAR && !isTable(v) {
				found = append(found, "package variable "+v.Names[0].Name)
			}
		}
	}
	return found
}

// isTable reports whether a package variable is an error or a written out value without maps and functions.
func isTable(v *ast.ValueSpec) bool {
	ok := len(v.Values) == len(v.Names)
	for _, value := range v.Values {
		ast.Inspect(value, func(n ast.Node) bool {
			switch x := n.(type) {
			case *ast.MapType, *ast.FuncLit:
				ok = false
			case *ast.UnaryExpr:
				ok = ok && x.Op != token.AND
			case *ast.CallExpr:
				s, isSelector := x.Fun.(*ast.SelectorExpr)
				ok = ok && isSelector && s.Sel.Name == "New"
			}
			return true
		})
	}
	return ok
}

func nameBreaches(file *ast.File) []string {
	var found []string
	ast.Inspect(file, func(n ast.Node) bool {
		switch x := n.(type) {
		case *ast.CallExpr:
			if f, ok := x.Fun.(*ast.Ident); ok && (f.Name == "print" || f.Name == "println") {
				found = append(found, "printing")
			}
		case *ast.SelectorExpr:
			if p, ok := x.X.(*ast.Ident); ok {
				names := allowedImports[p.Name]
				if names != nil && !slices.Contains(names, x.Sel.Name) {
					found = append(found, "use of "+p.Name+"."+x.Sel.Name)
				}
			}
		}
		return true
	})
	return found
}

func TestProgramKeepsTheLanguage(t *testing.T) {
	entries, err := os.ReadDir("../impl")
	if err != nil {
		t.Fatal(err)
	}
	for _, e := range entries {
		if e.IsDir() || filepath.Ext(e.Name()) != ".go" {
			t.Errorf("impl has %s, which is no Go file", e.Name())
			continue
		}
		source, err := os.ReadFile(filepath.Join("../impl", e.Name()))
		if err != nil {
			t.Fatal(err)
		}
		for _, b := range breaches(source) {
			t.Errorf("impl/%s: %s", e.Name(), b)
		}
	}
}

func TestFoldersOfTheProject(t *testing.T) {
	entries, err := os.ReadDir("..")
	if err != nil {
		t.Fatal(err)
	}
	for _, e := range entries {
		// .git is the checkout's, and sharedtests is where .ci/run lays the given tests.
		if e.IsDir() && !slices.Contains([]string{"impl", "tests", ".ci", ".git", "sharedtests"}, e.Name()) {
			t.Errorf("the project has another folder, %s", e.Name())
		}
	}
}

func TestBreachesAreFound(t *testing.T) {
	const head = "package impl\n\n"
	good := []string{
		head + "import \"slices\"\n\nfunc f(l []int) { slices.Sort(l) }\n",
		head + "import \"errors\"\n\nvar err = errors.New(\"odd\")\n",
		head + "import \"sync\"\n\nfunc f(l *sync.Mutex) { l.Lock() }\n",
		head + "var table = [2]int{1, 2}\n",
		head + "func f() { defer func() { recover() }() }\n",
		head + "func f() {\n" + strings.Repeat("\tf()\n", maxFunctionLines-2) + "}\n",
	}
	for _, source := range good {
		if got := breaches([]byte(source)); len(got) != 0 {
			t.Errorf("breaches of %q: %v", source, got)
		}
	}
	bad := []struct{ source, want string }{
		{head + "func f()  {}\n", "not the layout of gofmt"},
		{head + "import \"fmt\"\n", "import of fmt"},
		{head + "import \"unsafe\"\n", "import of unsafe"},
		{head + "import . \"strings\"\n", "import of strings"},
		{head + "import \"iter\"\n\nfunc f(s iter.Seq[int]) { iter.Pull(s) }\n", "use of iter.Pull"},
		{head + "import \"sync\"\n\nfunc f() { sync.OnceFunc(f) }\n", "use of sync.OnceFunc"},
		{"//go:build linux\n\npackage impl\n", "directive //go:build linux"},
		{head + "//go:noinline\nfunc f() {}\n", "directive //go:noinline"},
		{head + "func f() { println(1) }\n", "printing"},
		{head + "func f() { recover() }\n", "recover without a deferred function literal"},
		{head + "var count int\n", "package variable count"},
		{head + "var table = map[int]int{}\n", "package variable table"},
		{head + "var f = func() {}\n", "package variable f"},
		{head + "var p = &struct{}{}\n", "package variable p"},
		{head + "var n = len(\"abc\")\n", "package variable n"},
		{head + "func f() {\n" + strings.Repeat("\tf()\n", maxFunctionLines-1) + "}\n", "long function f"},
	}
	for _, b := range bad {
		if got := breaches([]byte(b.source)); !slices.Equal(got, []string{b.want}) {
			t.Errorf("breaches of %q: %v, want %s", b.source, got, b.want)
		}
	}
}
