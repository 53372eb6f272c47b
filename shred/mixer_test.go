package shred

import (
	"bytes"
	"go/ast"
	"go/parser"
	"go/token"
	"testing"

	"coffer/api"
)

// When a call ends, nothing of what went through its mixer is left in it.
func TestEnd(t *testing.T) {
	for _, hash := range []int{api.Hash224, api.Hash256, api.Hash384, api.Hash512} {
		m, e := begin(hash)
		if e != api.OK {
			t.Fatal(e)
		}
		m.mask(bytes.Repeat([]byte{7}, 2*api.MaxSecret), bytes.Repeat([]byte{9}, api.MaxSecret))
		room := m.bytes()
		if bytes.Equal(room, make([]byte, api.MaxSecret)) {
			t.Errorf("%d: nothing went through", hash)
		}
		m.end()
		if !bytes.Equal(room, make([]byte, api.MaxSecret)) || len(m.bytes()) != 0 || m.stream.Count() != 0 {
			t.Errorf("%d: something is left", hash)
		}
	}
}

// Each call that begins a mixer ends it by a deferred call.
func TestEndIsDeferred(t *testing.T) {
	f, err := parser.ParseFile(token.NewFileSet(), "shred.go", nil, 0)
	if err != nil {
		t.Fatal(err)
	}
	for _, d := range f.Decls {
		fun, ok := d.(*ast.FuncDecl)
		if !ok {
			continue
		}
		begins, ends := 0, 0
		ast.Inspect(fun, func(n ast.Node) bool {
			switch x := n.(type) {
			case *ast.Ident:
				if x.Name == "begin" {
					begins++
				}
			case *ast.DeferStmt:
				if s, ok := x.Call.Fun.(*ast.SelectorExpr); ok && s.Sel.Name == "end" {
					ends++
				}
			}
			return true
		})
		if begins != ends {
			t.Errorf("%s begins %d and defers the end of %d", fun.Name.Name, begins, ends)
		}
	}
}

// The pieces, in order and with their numbers; a loop over them may be left.
func TestPieces(t *testing.T) {
	list := []byte{1, 2, 3, 4, 5, 6, 7}
	for size := 1; size <= 9; size++ {
		for n := range len(list) + 1 {
			var joined []byte
			count := 0
			for i, p := range pieces(list[:n], size) {
				if i != count || len(p) != min(size, n-len(joined)) || cap(p) != len(p) {
					t.Errorf("%d of %d: piece %d has number %d, %d bytes, room for %d", size, n, count, i, len(p), cap(p))
				}
				joined = append(joined, p...)
				count++
			}
			if !bytes.Equal(joined, list[:n]) {
				t.Errorf("%d of %d: %v", size, n, joined)
			}
		}
	}
	count := 0
	for range pieces(list, 2) {
		if count++; count == 2 {
			break
		}
	}
	if count != 2 {
		t.Errorf("%d pieces behind a break", count)
	}
}
