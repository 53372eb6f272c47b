package probe_test

import (
	"go/parser"
	"go/token"
	"path/filepath"
	"reflect"
	"slices"
	"strconv"
	"strings"
	"testing"

	"coffer/api"
	"coffer/probe"
)

// reach is where the room of a list lies.
type reach struct {
	from, to uintptr
}

// reaches gives those of all lists in what is handed in.
func reaches(all ...any) []reach {
	var out []reach
	var walk func(v reflect.Value)
	walk = func(v reflect.Value) {
		switch v.Kind() {
		case reflect.Struct:
			for i := range v.NumField() {
				walk(v.Field(i))
			}
		case reflect.Slice:
			if v.Cap() > 0 {
				from := v.Pointer()
				out = append(out, reach{from, from + uintptr(v.Cap())*v.Type().Elem().Size()})
			}
			for i := range v.Len() {
				walk(v.Index(i))
			}
		}
	}
	for _, x := range all {
		walk(reflect.ValueOf(x))
	}
	return out
}

// apart: no two lists have any room in common, that behind their ends neither.
func apart(t *testing.T, all ...any) {
	t.Helper()
	lists := reaches(all...)
	for i, a := range lists {
		for _, b := range lists[i+1:] {
			if a.from < b.to && b.from < a.to {
				t.Errorf("two lists share memory: %v, %v", a, b)
			}
		}
	}
}

// roomy gives a list in memory of its own, with spare room.
func roomy[T any](list []T) []T {
	return append(slices.Grow(slices.Clone(list), 8), list...)[:len(list)]
}

func roomyMeta(m api.Meta) api.Meta {
	m.Slots, m.Epochs, m.Segments, m.Tokens = roomy(m.Slots), roomy(m.Epochs), roomy(m.Segments), roomy(m.Tokens)
	for i := range m.Tokens {
		m.Tokens[i].Slots = roomy(m.Tokens[i].Slots)
	}
	return m
}

// whole gives all that lists hold, behind their ends too.
func whole(m api.Meta) api.Meta {
	m.Slots, m.Epochs, m.Segments, m.Tokens = m.Slots[:cap(m.Slots)], m.Epochs[:cap(m.Epochs)], m.Segments[:cap(m.Segments)], m.Tokens[:cap(m.Tokens)]
	m.Tokens = slices.Clone(m.Tokens)
	for i := range m.Tokens {
		m.Tokens[i].Slots = m.Tokens[i].Slots[:cap(m.Tokens[i].Slots)]
	}
	return m
}

// P15.12: what is handed in is not changed, spare room neither, and what is answered shares nothing with it.
func TestHandedIn(t *testing.T) {
	a, b := roomyMeta(turning(512, 9, true, 2, 3, 4)), roomyMeta(still(512, 9))
	slices.Reverse(a.Slots) // an order that sorting would change
	s := api.Seen{Takes: 1, Both: true, Fits: true, Meta: a, Other: b, Areas: roomy([]api.SeenArea{{Slot: 1}, {Slot: -1}})}
	keptA, keptB, keptAreas := tidy(whole(a)), tidy(whole(b)), slices.Clone(s.Areas[:cap(s.Areas)])
	lines, order, compared := probe.Lines(s), probe.Order(a), probe.Compare(a, b)
	spots, e := probe.Spots(b)
	must(t, "Spots", e)
	apart(t, a, b, s.Areas, lines, order, compared, spots, probe.Lines(s), probe.Order(a), probe.Compare(a, b))
	if !reflect.DeepEqual(tidy(whole(a)), keptA) || !reflect.DeepEqual(tidy(whole(b)), keptB) || !slices.Equal(s.Areas[:cap(s.Areas)], keptAreas) {
		t.Error("what is handed in is changed")
	}
	wantLines, wantOrder := slices.Clone(lines), slices.Clone(order)
	clear(a.Slots[:cap(a.Slots)])
	clear(b.Tokens[:cap(b.Tokens)])
	if !slices.Equal(lines, wantLines) || !slices.Equal(order, wantOrder) {
		t.Error("what is answered hangs on what was handed in")
	}
}

// P15.12: what is seen is new memory, each list for itself.
func TestSeen(t *testing.T) {
	d := laid(t, turning(512, 9, true, 2, 3, 4))
	s, e := probe.Look(d)
	must(t, "Look", e)
	expect(t, "both", s.Both, true)
	apart(t, s)
}

// The chapter: package probe leans on api, digest, spring, header, ledger and rekey; LANGUAGE.md's packages alone.
func TestImports(t *testing.T) {
	may := []string{"cmp", "iter", "slices", "strconv", "strings", "coffer/api", "coffer/digest", "coffer/spring", "coffer/header", "coffer/ledger", "coffer/rekey"}
	files, err := filepath.Glob("*.go")
	if err != nil || len(files) == 0 {
		t.Fatal(err)
	}
	for _, f := range files {
		if strings.HasSuffix(f, "_test.go") {
			continue
		}
		parsed, err := parser.ParseFile(token.NewFileSet(), f, nil, parser.ImportsOnly)
		if err != nil {
			t.Fatal(err)
		}
		for _, i := range parsed.Imports {
			if path, _ := strconv.Unquote(i.Path.Value); !slices.Contains(may, path) {
				t.Errorf("%s imports %s", f, path)
			}
		}
	}
}
