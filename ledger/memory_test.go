package ledger_test

import (
	"fmt"
	"go/parser"
	"go/token"
	"path/filepath"
	"slices"
	"strconv"
	"strings"
	"sync"
	"testing"

	"coffer/api"
	"coffer/ledger"
)

// roomy gives a list in memory of its own, with spare room that holds something.
func roomy[T any](list []T, spare T) []T {
	out := append(append([]T(nil), list...), spare, spare, spare)
	return out[:len(list)]
}

// room gives metadata whose lists all have spare room.
func room(m api.Meta) api.Meta {
	m.Slots = roomy(m.Slots, api.Slot{Number: 77})
	m.Epochs = roomy(m.Epochs, api.Epoch{Number: 77})
	m.Segments = roomy(m.Segments, api.Segment{Count: 77})
	m.Tokens = roomy(m.Tokens, api.Token{Number: 77})
	for i, t := range m.Tokens {
		m.Tokens[i].Slots = roomy(t.Slots, 77)
	}
	return m
}

// allOf gives all that metadata hold, their lists' spare room too, as one text.
func allOf(m api.Meta) string {
	s := fmt.Sprint(m, m.Slots[:cap(m.Slots)], m.Epochs[:cap(m.Epochs)], m.Segments[:cap(m.Segments)], m.Tokens[:cap(m.Tokens)])
	for _, t := range m.Tokens {
		s += fmt.Sprint(t.Slots[:cap(t.Slots)])
	}
	return s
}

func fill[T any](list []T, with T) {
	list = list[:cap(list)]
	for i := range list {
		list[i] = with
	}
}

// spoil overwrites all lists, their spare room too: whoever shares memory with them shows it.
func spoil(m api.Meta) {
	for _, t := range m.Tokens {
		fill(t.Slots, -7)
	}
	fill(m.Slots, api.Slot{Number: -7})
	fill(m.Epochs, api.Epoch{Cipher: "spoilt"})
	fill(m.Segments, api.Segment{Count: 1 << 60})
	fill(m.Tokens, api.Token{Kind: "spoilt", Slots: []int{-7}})
}

// Rule 2: what is handed in is not changed, nor the room behind it.
func TestArgumentsStay(t *testing.T) {
	for i, base := range append(those(), fullest()) {
		m := room(base)
		kept := allOf(m)
		want := printed(t, base)
		ledger.Sectors(m.Shape)
		segments := ledger.Segments(m)
		ledger.Check(m)
		for _, tok := range m.Tokens {
			ledger.TokenMay(tok)
		}
		got, e := ledger.Print(m)
		if allOf(m) != kept {
			t.Errorf("metadata %d: what is handed in is changed", i)
		}
		spoil(m)
		if got != want || e != api.OK || !slices.Equal(segments, base.Segments) {
			t.Errorf("metadata %d: what is handed in is kept", i)
		}
	}
}

// Rule 2: each answer is new memory, spare room too, and no two lists of one share any.
func TestAnswersApart(t *testing.T) {
	m := turning(true, 1, 40)
	a, b := ledger.Segments(m), ledger.Segments(m)
	fill(a, api.Segment{Epoch: 99})
	if !slices.Equal(b, m.Segments) || !slices.Equal(ledger.Segments(m), m.Segments) {
		t.Errorf("two answers of Segments share memory")
	}
	for i, base := range append(those(), fullest()) {
		s := printed(t, base)
		one, _, _ := ledger.Parse(s)
		two, _, _ := ledger.Parse(s)
		spoil(one)
		if !same(two, base) {
			t.Errorf("metadata %d: two answers of Parse share memory", i)
		}
		for k, tok := range two.Tokens {
			fill(tok.Slots, k)
		}
		for k, tok := range two.Tokens {
			if slices.ContainsFunc(tok.Slots[:cap(tok.Slots)], func(n int) bool { return n != k }) {
				t.Errorf("metadata %d: tokens share memory", i)
			}
		}
	}
}

// Rule 3: an empty list and nil are the same.
func TestEmptyLists(t *testing.T) {
	m := still()
	m.Tokens = nil
	want := printed(t, m)
	m.Tokens = []api.Token{}
	if got := printed(t, m); got != want {
		t.Errorf("no tokens: %s", got)
	}
	m.Tokens = []api.Token{{Kind: "k"}}
	want = printed(t, m)
	m.Tokens[0].Slots = []int{}
	if got := printed(t, m); got != want {
		t.Errorf("no slots: %s", got)
	}
	for _, change := range []func(m *api.Meta){
		func(m *api.Meta) { m.Slots = []api.Slot{} },
		func(m *api.Meta) { m.Epochs = []api.Epoch{} },
		func(m *api.Meta) { m.Segments = []api.Segment{} },
	} {
		m := still()
		change(&m)
		checkAs(t, "an empty list", m)
	}
}

// Rule 1: the zero values are answered.
func TestZeroValues(t *testing.T) {
	if n, e := ledger.Sectors(api.Shape{}); n != 0 || e != api.ErrLedgerShape {
		t.Errorf("Sectors: %d, error %d", n, e)
	}
	if got := ledger.Segments(api.Meta{}); len(got) != 0 {
		t.Errorf("Segments: %v", got)
	}
	if e := ledger.Check(api.Meta{}); e != api.ErrLedgerShape {
		t.Errorf("Check: error %d", e)
	}
	if s, e := ledger.Print(api.Meta{}); s != "" || e != api.ErrLedgerShape {
		t.Errorf("Print: %q, error %d", s, e)
	}
	if m, e, at := ledger.Parse(""); e != api.ErrScrollEnd || at != 0 || !same(m, api.Meta{}) {
		t.Errorf("Parse: error %d at %d", e, at)
	}
}

// Rule 4: the calls have nothing in common, at the same time too.
func TestManyGoroutines(t *testing.T) {
	all := those()
	want := make([]string, len(all))
	for i, m := range all {
		want[i] = printed(t, m)
	}
	var group sync.WaitGroup
	for g := range 8 {
		group.Go(func() {
			for n := range 40 {
				i := (n + g) % len(all)
				if got, e := ledger.Print(all[i]); got != want[i] || e != api.OK {
					t.Errorf("Print: error %d", e)
				}
				m, e, _ := ledger.Parse(want[i])
				if e != api.OK || !same(m, all[i]) {
					t.Errorf("Parse: error %d", e)
				}
				spoil(m)
			}
		})
	}
	group.Wait()
}

// The chapter: package ledger calls digest, tweak and scroll; LANGUAGE.md's packages alone.
func TestImports(t *testing.T) {
	files, err := filepath.Glob("*.go")
	if err != nil || len(files) == 0 {
		t.Fatal(err)
	}
	for _, f := range files {
		if strings.HasSuffix(f, "_test.go") {
			continue
		}
		parsed, err := parser.ParseFile(token.NewFileSet(), f, nil, parser.ImportsOnly)
		if err != nil {
			t.Fatal(err)
		}
		for _, i := range parsed.Imports {
			path, _ := strconv.Unquote(i.Path.Value)
			if !slices.Contains([]string{"cmp", "maps", "slices", "strconv", "unicode/utf8", "coffer/api", "coffer/digest", "coffer/tweak", "coffer/scroll"}, path) {
				t.Errorf("%s imports %s", f, path)
			}
		}
	}
}
