package convoy_test

import (
	"bytes"
	"go/parser"
	"go/token"
	"path/filepath"
	"slices"
	"strconv"
	"strings"
	"testing"

	"coffer/api"
	"coffer/convoy"
)

// roomy gives a list in memory of its own, with spare room that holds something.
func roomy(list []byte) []byte {
	return append(bytes.Clone(list), 77, 78, 79)[:len(list)]
}

// fill overwrites a list, its spare room too: whoever shares memory with it shows it.
func fill(list []byte) {
	list = list[:cap(list)]
	for i := range list {
		list[i] = 0xee
	}
}

// Rule 2: a run is neither changed nor kept, with its spare room; each answer is new memory.
func TestApart(t *testing.T) {
	for _, spec := range []string{"null", "aes128-ecb", "aes256-xts-plain64", "aes128-cbc-tcw", "aes192-cbc-elephant", "aes256-hctr2-plain64"} {
		c, d := cipher(t, spec, 1), cipher(t, "null", 2)
		for name, ask := range map[string]func(run []byte) ([]byte, api.Errno){
			"Seal":    func(run []byte) ([]byte, api.Errno) { return convoy.Seal(c, 4, 512, 1, run) },
			"Open":    func(run []byte) ([]byte, api.Errno) { return convoy.Open(c, 4, 512, 1, run) },
			"Move":    func(run []byte) ([]byte, api.Errno) { return convoy.Move(c, d, 4, 512, 1, run) },
			"Move to": func(run []byte) ([]byte, api.Errno) { return convoy.Move(d, c, 4, 512, 1, run) },
		} {
			run := roomy(some(3, 9*512))
			kept := bytes.Clone(run[:cap(run)])
			one, e := ask(run)
			expect(t, name, e, api.OK)
			want := bytes.Clone(one)
			two, e := ask(run)
			expect(t, name, e, api.OK)
			if !bytes.Equal(run[:cap(run)], kept) {
				t.Errorf("%s, %s: what is handed in is changed", spec, name)
			}
			fill(one)
			fill(run)
			if !bytes.Equal(two, want) {
				t.Errorf("%s, %s: two answers share memory, or one with what is handed in", spec, name)
			}
		}
	}
}

// Rule 2: of Digests too.
func TestDigestsApart(t *testing.T) {
	run := roomy(some(3, 9*512))
	kept := bytes.Clone(run[:cap(run)])
	want := modelDigests(512, run)
	one, e := convoy.Digests(4, 512, run)
	expect(t, "Digests", e, api.OK)
	two, e := convoy.Digests(4, 512, run)
	expect(t, "Digests", e, api.OK)
	if !bytes.Equal(run[:cap(run)], kept) {
		t.Errorf("what is handed in is changed")
	}
	for i := range one {
		one[i] = "spoilt"
	}
	fill(run)
	if !slices.Equal(two, want) {
		t.Errorf("two answers share memory, or one with what is handed in")
	}
}

// Rule 2: a run that lies in the midst of other bytes; a refused call changes nothing either.
func TestMidst(t *testing.T) {
	c := cipher(t, "aes128-xts-plain64", 1)
	space := some(4, 10*512)
	kept := bytes.Clone(space)
	run := space[100 : 100+4*512]
	sealed, e := convoy.Seal(c, 4, 512, 8, run)
	if e != api.OK || !bytes.Equal(sealed, bySector(t, 512, 8, run, c.Seal)) {
		t.Errorf("Seal: error %d, or other bytes", e)
	}
	convoy.Seal(wiped(t), 4, 512, 8, run)
	convoy.Open(c, 4, 1024, 8, run[:512])
	convoy.Move(c, wiped(t), 4, 512, 8, run)
	if !bytes.Equal(space, kept) {
		t.Errorf("what is handed in, or what lies about it, is changed")
	}
}

// The chapter: package convoy leans on api, digest and tweak; LANGUAGE.md's packages alone.
func TestImports(t *testing.T) {
	may := []string{"math", "sync", "sync/atomic", "coffer/api", "coffer/digest", "coffer/tweak"}
	files, err := filepath.Glob("*.go")
	if err != nil || len(files) == 0 {
		t.Fatal(err)
	}
	for _, f := range files {
		if strings.HasSuffix(f, "_test.go") {
			continue
		}
		parsed, err := parser.ParseFile(token.NewFileSet(), f, nil, parser.ImportsOnly)
		if err != nil {
			t.Fatal(err)
		}
		for _, i := range parsed.Imports {
			if path, _ := strconv.Unquote(i.Path.Value); !slices.Contains(may, path) {
				t.Errorf("%s imports %s", f, path)
			}
		}
	}
}
