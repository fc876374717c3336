package tests

import (
	"go/ast"
	"go/parser"
	"go/token"
	"path/filepath"
	"testing"
)

// What is kept of the ring's places is not to be seen in an answer, and no answer can show that it is not: so the test
// looks into the program's text.
const keptName = "nodePlaces"

// A mention of the kept places by a function of the program.
type mention struct {
	function      *ast.FuncDecl
	written, left bool
}

func mentionsOfPlaces(t *testing.T) []mention {
	names, err := filepath.Glob("../impl/*.go")
	if err != nil || len(names) == 0 {
		t.Fatal(names, err)
	}
	var all []mention
	for _, name := range names {
		file, err := parser.ParseFile(token.NewFileSet(), name, nil, parser.SkipObjectResolution)
		if err != nil {
			t.Fatal(err)
		}
		for _, decl := range file.Decls {
			if function, ok := decl.(*ast.FuncDecl); ok {
				all = append(all, mentionsIn(function)...)
			}
		}
	}
	return all
}

func mentionsIn(function *ast.FuncDecl) []mention {
	var all []mention
	kinds := map[*ast.Ident]mention{}
	ast.Inspect(function, func(n ast.Node) bool {
		switch x := n.(type) {
		case *ast.AssignStmt:
			if place, ok := x.Lhs[0].(*ast.IndexExpr); ok {
				if kept, ok := place.X.(*ast.Ident); ok {
					kinds[kept] = mention{written: true}
				}
			}
			to, blank := x.Lhs[0].(*ast.Ident)
			if kept, ok := x.Rhs[0].(*ast.Ident); ok && blank && to.Name == "_" {
				kinds[kept] = mention{left: true}
			}
		case *ast.Ident:
			if x.Name == keptName {
				m := kinds[x]
				m.function = function
				all = append(all, m)
			}
		}
		return true
	})
	return all
}

// One function writes the kept places, an exported one reads them, and whoever reads them leaves what it has read.
func TestNoAnswerComesFromKeptPlaces(t *testing.T) {
	writers, readers := 0, 0
	for _, m := range mentionsOfPlaces(t) {
		switch {
		case m.written:
			writers++
		case m.left && m.function.Name.IsExported():
			readers++
		default:
			t.Error(m.function.Name.Name, "does more with", keptName, "than to read it")
		}
	}
	if writers != 1 || readers == 0 {
		t.Error(keptName, "is written at", writers, "places and read by", readers, "exported functions")
	}
}
