package shell_test

import (
	"go/parser"
	"go/token"
	"path/filepath"
	"reflect"
	"slices"
	"strconv"
	"strings"
	"testing"
	"unsafe"

	"coffer/api"
	"coffer/shell"
)

// reach is where memory lies.
type reach struct {
	from, to uintptr
}

func ofText(text string) reach {
	from := uintptr(unsafe.Pointer(unsafe.StringData(text)))
	return reach{from, from + uintptr(len(text))}
}

func ofList[T any](list []T) reach {
	from := uintptr(unsafe.Pointer(unsafe.SliceData(list)))
	var one T
	return reach{from, from + uintptr(cap(list))*unsafe.Sizeof(one)}
}

func apart(t *testing.T, name string, a, b reach) {
	t.Helper()
	if a.from < b.to && b.from < a.to {
		t.Errorf("%s shares memory", name)
	}
}

// What Parse answers is new: its texts are no part of the line, its list no part of another answer.
func TestParseMemory(t *testing.T) {
	line := "write volume at=5 text=\"a b\" hex=abcdef"
	said, _, _ := shell.Parse(line)
	again, _, _ := shell.Parse(line)
	apart(t, "the list", ofList(said.Options), ofList(again.Options))
	for _, text := range []string{said.Command, said.Name, said.Options[0].Key, said.Options[0].Value, said.Options[1].Value, said.Options[2].Value} {
		apart(t, text, ofText(line), ofText(text))
	}
	said.Options[0] = api.ShellOption{}
	clear(said.Options[:cap(said.Options)])
	again2, _, _ := shell.Parse(line)
	if !reflect.DeepEqual(again, again2) {
		t.Error("an answer hangs on another one")
	}
}

// What Line and Do answer is new: to change it changes nothing.
func TestAnswerMemory(t *testing.T) {
	s := shell.New()
	s.Do(story)
	for _, line := range []string{"dump d", "read w at=0 sectors=3", "used d", "ops d", "status v", "nosuch", "tokens w"} {
		first := s.Line(line)
		kept := slices.Clone(first)
		second := s.Line(line)
		apart(t, line, ofList(first), ofList(second))
		clear(first[:cap(first)])
		same(t, line, second, kept)
		same(t, line, s.Line(line), kept)
	}
	a, b := shell.New().Do(story), shell.New().Do(story)
	apart(t, "Do", ofList(a), ofList(b))
	clear(a[:cap(a)])
	same(t, "Do", shell.New().Do(story), b)
}

// A shell has no other calls than the chapter tells.
func TestMethods(t *testing.T) {
	var names []string
	of := reflect.TypeFor[*shell.Shell]()
	for i := range of.NumMethod() {
		names = append(names, of.Method(i).Name)
	}
	same(t, "methods", names, []string{"Do", "Line"})
	expect(t, "fields that others see", slices.ContainsFunc(reflect.VisibleFields(of.Elem()), reflect.StructField.IsExported), false)
}

// The chapter: package shell leans on api, digest, slab, spring, header, volume, escrow and probe; LANGUAGE.md's packages alone.
func TestImports(t *testing.T) {
	may := []string{"bytes", "iter", "maps", "math", "slices", "strconv", "strings", "coffer/api", "coffer/digest", "coffer/slab", "coffer/spring", "coffer/header", "coffer/volume", "coffer/escrow", "coffer/probe"}
	files, err := filepath.Glob("*.go")
	if err != nil || len(files) == 0 {
		t.Fatal(err)
	}
	for _, f := range files {
		if strings.HasSuffix(f, "_test.go") {
			continue
		}
		parsed, err := parser.ParseFile(token.NewFileSet(), f, nil, parser.ImportsOnly)
		if err != nil {
			t.Fatal(err)
		}
		for _, i := range parsed.Imports {
			if path, _ := strconv.Unquote(i.Path.Value); !slices.Contains(may, path) {
				t.Errorf("%s imports %s", f, path)
			}
		}
	}
}
