package sample_test

import (
	"go/ast"
	"go/parser"
	"go/token"
	"path/filepath"
	"slices"
	"strings"
	"testing"
)

// Go tells in which order the calls of one statement come, but not whether a variable that stands beside one of them is read ahead of it or behind it. What a function literal sets is to be read in a statement without such a call: else an answer would hang on the compiler, and no run of one compiler shows it.

func TestNoAnswerHangsOnTheOrderWithinAStatement(t *testing.T) { // P1, P2
	files, err := filepath.Glob("../*/*.go")
	if err != nil || len(files) < 30 {
		t.Fatal(files, err)
	}
	for _, name := range files {
		if !strings.HasSuffix(name, "_test.go") {
			for _, at := range loose(t, name, nil) {
				t.Errorf("%s: what a function literal sets is read beside a call", at)
			}
		}
	}
}

func TestWhatIsReadBesideACall(t *testing.T) {
	for _, c := range []struct {
		lines string
		want  int
	}{
		{"return f(), n", 1},
		{"return n, f()", 1},
		{"return 1 + g(2) + n, n", 2},
		{"l := []int{n, f()}; return l[0], 0", 1},
		{"l := [2]int{}; l[n] = f(); return l[0], 0", 1},
		{"if n < f() { return 0, 0 }; return 1, 1", 1},
		{"for n < f() { }; return 1, 1", 1},
		{"switch n { case f(), n: return 0, 0 }; return 1, 1", 1},
		{"return g(n + f()), 0", 1},
		{"return func() int { return f() + m }(), 0", 1},
		{"m = f(); return m, 0", 0},
		{"n = f(); return n, 0", 0},
		{"n, m = f(), f(); return n, m", 0},
		{"x := f(); return x, n", 0},
		{"return g(n), m", 1},
		{"return g(n), 0", 0},
		{"return g(g(n)), 0", 0},
		{"if f() > 0 && n > 0 || n < 0 && f() < 0 { return 0, 0 }; return 1, 1", 0},
		{"return len(l) + n, int(8) + k + f()", 1},
		{"return k, f()", 0},
	} {
		text := "package p; func p(k int, l []int) (int, int) { n, m := 0, 0; f := func() int { n++; m, k := n, 1; return m + k }; g := func(x int) int { m = x; return m }; " + c.lines + " }"
		if got := loose(t, "p.go", text); len(got) != c.want {
			t.Errorf("%s: %v, want %d", c.lines, got, c.want)
		}
	}
}

// loose are the places of a file where a variable that a function literal sets is read beside a call.
func loose(t *testing.T, name string, text any) []string {
	t.Helper()
	set := token.NewFileSet()
	file, err := parser.ParseFile(set, name, text, 0)
	if err != nil {
		t.Fatal(err)
	}
	turned, l := turnedWithin(file), []string{}
	ast.Inspect(file, func(n ast.Node) bool {
		if s, ok := n.(ast.Stmt); ok {
			for _, read := range besideCalls(s, turned) {
				l = append(l, set.Position(read.Pos()).String())
			}
		}
		return true
	})
	return l
}

// turnedWithin are the variables that a function literal sets, which stand outside of it.
func turnedWithin(file *ast.File) map[*ast.Object]bool {
	turned := map[*ast.Object]bool{}
	ast.Inspect(file, func(n ast.Node) bool {
		literal, ok := n.(*ast.FuncLit)
		if !ok {
			return true
		}
		ast.Inspect(literal, func(n ast.Node) bool {
			for _, x := range targets(n) {
				if id, ok := x.(*ast.Ident); ok && id.Obj != nil && (id.Obj.Pos() < literal.Pos() || id.Obj.Pos() > literal.End()) {
					turned[id.Obj] = true
				}
			}
			return true
		})
		return true
	})
	return turned
}

// targets are what a statement sets.
func targets(n ast.Node) []ast.Expr {
	switch s := n.(type) {
	case *ast.AssignStmt:
		return s.Lhs
	case *ast.IncDecStmt:
		return []ast.Expr{s.X}
	case *ast.RangeStmt:
		return []ast.Expr{s.Key, s.Value}
	}
	return nil
}

// besideCalls are the variables of these that a statement itself reads beside a call.
func besideCalls(s ast.Stmt, turned map[*ast.Object]bool) []*ast.Ident {
	var reads, calls, path []ast.Node
	ways := map[ast.Node][]ast.Node{}
	ast.Inspect(s, func(n ast.Node) bool {
		if n == nil {
			path = path[:len(path)-1]
			return true
		}
		ways[n] = append(slices.Clone(path), n)
		switch x := n.(type) {
		case *ast.FuncLit:
			return false
		case ast.Stmt:
			if n != s {
				return false
			}
		case *ast.CallExpr:
			if !builtIn(x) {
				calls = append(calls, n)
			}
		case *ast.Ident:
			if turned[x.Obj] && !slices.Contains(targets(s), ast.Expr(x)) {
				reads = append(reads, n)
			}
		}
		path = append(path, n)
		return true
	})
	var l []*ast.Ident
	for _, read := range reads {
		if slices.ContainsFunc(calls, func(call ast.Node) bool { return open(ways[read], ways[call]) }) {
			l = append(l, read.(*ast.Ident))
		}
	}
	return l
}

// open tells whether Go leaves the order of a read and a call open, by the ways to both from their statement on: it does not of a call and what it is handed, nor of two sides of && or ||.
func open(read, call []ast.Node) bool {
	i := 0
	for i < len(call) && i < len(read) && call[i] == read[i] {
		i++
	}
	if i == len(call) {
		return false
	}
	both, ok := call[i-1].(*ast.BinaryExpr)
	return !ok || both.Op != token.LAND && both.Op != token.LOR
}

// builtIn tells whether a call is one of the language's own, or turns a number into another type.
func builtIn(c *ast.CallExpr) bool {
	name, ok := c.Fun.(*ast.Ident)
	return ok && name.Obj == nil && slices.Contains([]string{"append", "cap", "copy", "int", "len", "make", "max", "min", "uint64"}, name.Name)
}
