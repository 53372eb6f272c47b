package scroll_test

import (
	"math/rand"
	"slices"
	"strconv"
	"strings"
	"testing"

	"coffer/api"
	"coffer/scroll"
)

func get(t *testing.T, v api.Json, path string) (api.Json, api.Errno) {
	t.Helper()
	want, why := modelGet(v, path)
	got, e := scroll.Get(v, path)
	same(t, "Get("+short(v)+", "+strconv.Quote(path)+")", got, e, want, why)
	return got, e
}

func set(t *testing.T, v api.Json, path string, x api.Json) (api.Json, api.Errno) {
	t.Helper()
	want, why := modelSet(v, path, x)
	got, e := scroll.Set(v, path, x)
	same(t, "Set("+short(v)+", "+strconv.Quote(path)+", "+short(x)+")", got, e, want, why)
	return got, e
}

func cut(t *testing.T, v api.Json, path string) (api.Json, api.Errno) {
	t.Helper()
	want, why := modelCut(v, path)
	got, e := scroll.Cut(v, path)
	same(t, "Cut("+short(v)+", "+strconv.Quote(path)+")", got, e, want, why)
	return got, e
}

var wrongPaths = []string{"a", "0", " ", "a/b", "~", "~0", "/~", "/~2", "/a~", "/~a", "/~~0", "/~0~", "/a/~", "/~/a", "/~ 0", "/~\x00", "//~3", "/x/y/z/~9", "é/", "-", "/~10~2"}

// P7.8: the examples of RFC 6901 (its section 5).
func TestGetPublished(t *testing.T) {
	v := value(t, `{"foo":["bar","baz"],"":0,"a/b":1,"c%d":2,"e^f":3,"g|h":4,"i\\j":5,"k\"l":6," ":7,"m~n":8}`)
	for path, want := range map[string]string{
		"/foo": `["bar","baz"]`, "/foo/0": `"bar"`, "/": "0", "/a~1b": "1", "/c%d": "2", "/e^f": "3", "/g|h": "4", `/i\j`: "5", `/k"l`: "6", "/ ": "7", "/m~0n": "8",
	} {
		got, e := get(t, v, path)
		same(t, path, got, e, value(t, want), api.OK)
	}
	got, e := get(t, v, "")
	same(t, "the whole", got, e, v, api.OK)
}

// P7.8: names with ~0 and ~1, numbers, what leads nowhere, wrong paths.
func TestGet(t *testing.T) {
	v := value(t, `{"":{"":1},"~":2,"/":3,"~1":4,"~0":5,"/~":6,"0":[7,[8],{"0":9}],"-":10,"01":11,"é":12,"l":[],"o":{},"t":"x","n":null,"1e0":13,"many":[0,1,2,3,4,5,6,7,8,9,10,11]}`)
	for path, want := range map[string]string{
		"/": `{"":1}`, "//": "1", "/~0": "2", "/~1": "3", "/~01": "4", "/~00": "5", "/~1~0": "6", "/0/0": "7", "/0/1/0": "8", "/0/2/0": "9", "/-": "10", "/01": "11", "/é": "12", "/l": "[]", "/o": "{}", "/t": `"x"`, "/n": "null", "/1e0": "13", "/many/9": "9", "/many/10": "10", "/many/11": "11",
	} {
		got, e := get(t, v, path)
		same(t, path, got, e, value(t, want), api.OK)
	}
	for _, path := range []string{
		"/x", "///", "/ ", "/0/", "/0/3", "/0/00", "/0/01", "/0/-", "/0/-0", "/0/-1", "/0/+1", "/0/ 0", "/0/0 ", "/0/1e0", "/0/0x0", "/0/0.0", "/0/٠", "/0/1_0", "/0/9223372036854775807", "/0/9223372036854775808", "/0/18446744073709551616", "/0/99999999999999999999999999", "/0/a", "/l/0", "/l/-", "/o/a", "/o/", "/t/0", "/t/", "/n/0", "/n/", "/~0/0", "/many/12", "/many/010", "/\xff", "/0/\xff", "/0/0/0", "/0/~0", "/L",
	} {
		got, e := get(t, v, path)
		same(t, path, got, e, api.Json{}, api.ErrMissing)
	}
	for _, path := range wrongPaths {
		got, e := get(t, v, path)
		same(t, path, got, e, api.Json{}, api.ErrScrollPath)
	}
	for _, scalar := range []string{"null", "1", `"x"`, "[]", "{}"} {
		got, e := get(t, value(t, scalar), "")
		same(t, scalar, got, e, value(t, scalar), api.OK)
		got, e = get(t, value(t, scalar), "/")
		same(t, scalar, got, e, api.Json{}, api.ErrMissing)
	}
}

// P7.8, P7.9, P7.10: the order of the errors, where several hold.
func TestPathErrorsInOrder(t *testing.T) {
	good := value(t, `{"a":[1]}`)
	for name, row := range faults() {
		for _, path := range []string{"", "/a", "/x/y", "x", "/~2"} {
			got, e := scroll.Get(row.v, path)
			same(t, "Get of "+name, got, e, api.Json{}, row.why)
			got, e = scroll.Cut(row.v, path)
			same(t, "Cut of "+name, got, e, api.Json{}, row.why)
			got, e = scroll.Set(row.v, path, good)
			same(t, "Set of "+name, got, e, api.Json{}, row.why)
			got, e = scroll.Set(good, path, row.v)
			same(t, "Set to "+name, got, e, api.Json{}, row.why)
			got, e = scroll.Set(row.v, path, api.Json{Kind: api.JNumber, Text: "x"})
			same(t, "Set of two that may not be", got, e, api.Json{}, row.why)
			got, e = scroll.Set(number("x"), path, row.v)
			same(t, "Set of two that may not be", got, e, api.Json{}, api.ErrScrollNumber)
		}
	}
	for _, path := range []string{"x", "/nowhere/~2", "/~", "/a/9/~", "a~2/"} { // ErrScrollPath ahead of ErrMissing
		if _, e := get(t, good, path); e != api.ErrScrollPath {
			t.Errorf("Get(%q): %d", path, e)
		}
		if _, e := set(t, good, path, null); e != api.ErrScrollPath {
			t.Errorf("Set(%q): %d", path, e)
		}
		if _, e := cut(t, good, path); e != api.ErrScrollPath {
			t.Errorf("Cut(%q): %d", path, e)
		}
	}
	if _, e := set(t, nest(list(), 31), strings.Repeat("/0", 31)+"/1", list()); e != api.ErrMissing { // ErrMissing ahead of the whole's
		t.Errorf("Set: %d", e)
	}
	if _, e := set(t, listOf(65535), "/65536", null); e != api.ErrMissing {
		t.Errorf("Set: %d", e)
	}
}

// P7.9: in an object and in a list, in the place of what is there or at the end.
func TestSet(t *testing.T) {
	for _, row := range []struct{ v, path, want string }{
		{`1`, "", `"x"`}, {`{"a":1}`, "", `"x"`}, {`[]`, "", `"x"`},
		{`{}`, "/", `{"":"x"}`}, {`{}`, "/a", `{"a":"x"}`}, {`{"b":1}`, "/a", `{"b":1,"a":"x"}`}, {`{"b":1,"a":2,"c":3}`, "/a", `{"b":1,"a":"x","c":3}`}, {`{"a":1}`, "/a~1b", `{"a":1,"a/b":"x"}`}, {`{"a":1}`, "/~01", `{"a":1,"~1":"x"}`}, {`{"a":1}`, "/-", `{"a":1,"-":"x"}`}, {`{"a":1}`, "/0", `{"a":1,"0":"x"}`}, {`{"-":1}`, "/-", `{"-":"x"}`}, {`{"a":1}`, "/A", `{"a":1,"A":"x"}`}, {`{"a":1}`, "/01", `{"a":1,"01":"x"}`},
		{`[]`, "/0", `["x"]`}, {`[]`, "/-", `["x"]`}, {`[1,2]`, "/0", `["x",2]`}, {`[1,2]`, "/1", `[1,"x"]`}, {`[1,2]`, "/2", `[1,2,"x"]`}, {`[1,2]`, "/-", `[1,2,"x"]`}, {`[0,1,2,3,4,5,6,7,8,9]`, "/10", `[0,1,2,3,4,5,6,7,8,9,"x"]`},
		{`{"a":{"b":[{"c":1}]}}`, "/a/b/0/c", `{"a":{"b":[{"c":"x"}]}}`}, {`{"a":{"b":[{"c":1}]}}`, "/a/b/0/d", `{"a":{"b":[{"c":1,"d":"x"}]}}`}, {`{"a":{"b":[{"c":1}]}}`, "/a/b/-", `{"a":{"b":[{"c":1},"x"]}}`}, {`{"a":{"b":[{"c":1}]}}`, "/a/b", `{"a":{"b":"x"}}`}, {`{"a":{"b":1},"c":{"b":2}}`, "/c/b", `{"a":{"b":1},"c":{"b":"x"}}`}, {`[[],[]]`, "/1/0", `[[],["x"]]`}, {`{"":{"":1}}`, "//", `{"":{"":"x"}}`},
	} {
		got, e := set(t, value(t, row.v), row.path, text("x"))
		same(t, "Set("+row.v+", "+row.path+")", got, e, value(t, row.want), api.OK)
	}
	for _, row := range []struct{ v, path string }{
		{`1`, "/"}, {`null`, "/a"}, {`"x"`, "/0"}, {`true`, "/-"},
		{`[]`, "/1"}, {`[]`, "/"}, {`[]`, "/a"}, {`[1]`, "/2"}, {`[1]`, "/01"}, {`[1]`, "/00"}, {`[1]`, "/-1"}, {`[1]`, "/+1"}, {`[1]`, "/--"}, {`[1]`, "/ "}, {`[1]`, "/1e0"}, {`[1]`, "/18446744073709551616"}, {`[1]`, "/18446744073709551617"}, {`[1]`, "/9223372036854775808"},
		{`[1]`, "/-/0"}, {`[1]`, "/1/0"}, {`[[1]]`, "/-/0"}, {`[1]`, "/0/0"}, {`{"a":1}`, "/a/b"}, {`{"a":1}`, "/b/c"}, {`{"a":null}`, "/a/-"}, {`{"a":[]}`, "/a/1"}, {`{}`, "//"}, {`{}`, "/a/b/c"},
	} {
		got, e := set(t, value(t, row.v), row.path, null)
		same(t, "Set("+row.v+", "+row.path+")", got, e, api.Json{}, api.ErrMissing)
	}
	for _, path := range wrongPaths {
		got, e := set(t, value(t, `{"a":1}`), path, null)
		same(t, path, got, e, api.Json{}, api.ErrScrollPath)
	}
}

// P7.9: then Check's error of the whole: too deep, too many, a key that is no text; up to the bound it may be.
func TestSetWholeMayNotBe(t *testing.T) {
	deep, way := nest(list(), 31), strings.Repeat("/0", 31) // leads to the innermost list
	for _, path := range []string{way + "/-", way + "/0"} {
		if _, e := set(t, deep, path, null); e != api.OK {
			t.Errorf("a null in 32 lists: %d", e)
		}
		for _, x := range []api.Json{list(), object(), nest(null, 32)} {
			got, e := set(t, deep, path, x)
			same(t, "too deep", got, e, api.Json{}, api.ErrScrollDeep)
		}
	}
	if _, e := set(t, deep, way, list(null)); e != api.OK {
		t.Errorf("in the innermost list's place: %d", e)
	}
	if _, e := set(t, listOf(65534), "/-", null); e != api.OK {
		t.Errorf("65536 values: %d", e)
	}
	full := listOf(65535)
	if _, e := set(t, full, "/0", text("x")); e != api.OK {
		t.Errorf("in the place of one of 65535: %d", e)
	}
	for _, path := range []string{"/-", "/65535"} {
		got, e := set(t, full, path, null)
		same(t, "one too many", got, e, api.Json{}, api.ErrScrollMany)
	}
	got, e := set(t, full, "/0", list(null))
	same(t, "two in the place of one", got, e, api.Json{}, api.ErrScrollMany)
	for _, path := range []string{"/\xff", "/a/\xc3", "/a/~0\xed\xa0\x80"} {
		got, e := set(t, value(t, `{"a":{"b":1}}`), path, null)
		same(t, "a broken name", got, e, api.Json{}, api.ErrScrollText)
	}
	got, e = set(t, value(t, `[1]`), "/\xff", null)
	same(t, "a broken name in a list", got, e, api.Json{}, api.ErrMissing)
	withDeep := api.Json{Kind: api.JObject, Keys: []string{"d"}, Items: []api.Json{nest(list(), 30)}}
	got, e = set(t, withDeep, "/d"+strings.Repeat("/0", 30)+"/0", list())
	same(t, "an object's depth", got, e, api.Json{}, api.ErrScrollDeep)
}

// P7.10: an item or a member goes, the others stay in their order; the whole cannot go.
func TestCut(t *testing.T) {
	for _, row := range []struct{ v, path, want string }{
		{`[1]`, "/0", `[]`}, {`[1,2,3]`, "/0", `[2,3]`}, {`[1,2,3]`, "/1", `[1,3]`}, {`[1,2,3]`, "/2", `[1,2]`},
		{`{"a":1}`, "/a", `{}`}, {`{"a":1,"b":2,"c":3}`, "/a", `{"b":2,"c":3}`}, {`{"a":1,"b":2,"c":3}`, "/b", `{"a":1,"c":3}`}, {`{"a":1,"b":2,"c":3}`, "/c", `{"a":1,"b":2}`}, {`{"":1}`, "/", `{}`}, {`{"a/b":1,"~":2}`, "/a~1b", `{"~":2}`}, {`{"a/b":1,"~":2}`, "/~0", `{"a/b":1}`}, {`{"-":1}`, "/-", `{}`},
		{`{"a":{"b":[1,{"c":2}]}}`, "/a/b/1/c", `{"a":{"b":[1,{}]}}`}, {`{"a":{"b":[1,{"c":2}]}}`, "/a/b/1", `{"a":{"b":[1]}}`}, {`{"a":{"b":[1,{"c":2}]}}`, "/a/b", `{"a":{}}`}, {`[[1],[1]]`, "/1/0", `[[1],[]]`}, {`{"a":[1],"b":[1]}`, "/b", `{"a":[1]}`}, {`[null]`, "/0", `[]`},
	} {
		got, e := cut(t, value(t, row.v), row.path)
		same(t, "Cut("+row.v+", "+row.path+")", got, e, value(t, row.want), api.OK)
	}
	for _, row := range []struct{ v, path string }{
		{`[]`, "/0"}, {`[1]`, "/1"}, {`[1]`, "/-"}, {`[1]`, "/00"}, {`[1]`, "/-1"}, {`[1]`, "/"}, {`[1]`, "/0/0"}, {`{}`, "/a"}, {`{"a":1}`, "/b"}, {`{"a":1}`, "/a/b"}, {`{"a":1}`, "/b/c"}, {`1`, "/"}, {`null`, "/0"}, {`[1]`, "/18446744073709551616"}, {`{"a":1}`, "/\xff"},
	} {
		got, e := cut(t, value(t, row.v), row.path)
		same(t, "Cut("+row.v+", "+row.path+")", got, e, api.Json{}, api.ErrMissing)
	}
	for _, path := range append([]string{""}, wrongPaths...) {
		for _, v := range []string{"1", `{"a":1}`, "[]"} {
			got, e := cut(t, value(t, v), path)
			same(t, "Cut("+v+", "+path+")", got, e, api.Json{}, api.ErrScrollPath)
		}
	}
	got, e := cut(t, listOf(65535), "/65534")
	same(t, "Cut of a great list", got, e, listOf(65534), api.OK)
}

// walked gives what Walk tells.
func walked(v api.Json) []told {
	var all []told
	for path, x := range scroll.Walk(v) {
		all = append(all, told{path, x})
	}
	return all
}

func sameWalk(t *testing.T, name string, got, want []told) {
	t.Helper()
	if !slices.EqualFunc(got, want, func(a, b told) bool { return a.path == b.path && equals(a.v, b.v) }) {
		t.Errorf("%s: Walk tells %d values, not these %d", name, len(got), len(want))
	}
}

// P7.12: each value with its path, a value ahead of its items, items in their order.
func TestWalk(t *testing.T) {
	v := value(t, `{"b":[0,{"/":1,"~":2,"~1/":[]}],"":null,"a":{"x":{"y":"z"}}}`)
	var paths, texts []string
	for path, x := range scroll.Walk(v) {
		paths, texts = append(paths, path), append(texts, modelPrint(x, false))
	}
	wantPaths := []string{"", "/b", "/b/0", "/b/1", "/b/1/~1", "/b/1/~0", "/b/1/~01~1", "/", "/a", "/a/x", "/a/x/y"}
	wantTexts := []string{modelPrint(v, false), `[0,{"/":1,"~":2,"~1/":[]}]`, "0", `{"/":1,"~":2,"~1/":[]}`, "1", "2", "[]", "null", `{"x":{"y":"z"}}`, `{"y":"z"}`, `"z"`}
	if !slices.Equal(paths, wantPaths) || !slices.Equal(texts, wantTexts) {
		t.Errorf("Walk: %q %q", paths, texts)
	}
	for _, one := range []string{"null", "1", `"/"`, "[]", "{}"} {
		sameWalk(t, one, walked(value(t, one)), []told{{"", value(t, one)}})
	}
	items := walked(list(make12()...))
	if len(items) != 13 || items[11].path != "/10" || items[12].path != "/11" {
		t.Errorf("Walk of a list of twelve: %v", items)
	}
	if got := walked(listOf(65535)); len(got) != 65536 || got[65535].path != "/65534" {
		t.Errorf("Walk of a great list: %d", len(got))
	}
	if got := walked(nest(list(), 31)); len(got) != 32 || got[31].path != strings.Repeat("/0", 31) {
		t.Errorf("Walk of a deep list: %d", len(got))
	}
}

func make12() []api.Json { return listOf(12).Items }

// P7.12: of a value that may not be Walk tells nothing.
func TestWalkWhatMayNotBe(t *testing.T) {
	for name, row := range faults() {
		for _, v := range []api.Json{row.v, list(null, row.v)} {
			for path := range scroll.Walk(v) {
				t.Fatalf("Walk of %s tells %q", name, path)
			}
		}
	}
}

// P7.12: a loop that breaks off at any place, an iterator that is ranged over twice, one loop in another.
func TestWalkBreaksOffAndAgain(t *testing.T) {
	v := value(t, `[[1,[2]],{"a":{"b":3},"c":[]},4]`)
	all := modelWalk(v, "")
	walk := scroll.Walk(v)
	for stop := 1; stop <= len(all)+1; stop++ {
		var got []told
		for path, x := range walk {
			got = append(got, told{path, x})
			if len(got) == stop {
				break
			}
		}
		sameWalk(t, "broken off", got, all[:min(stop, len(all))])
	}
	count := 0
	for path := range walk {
		var inner []told
		for p, x := range walk {
			inner = append(inner, told{p, x})
		}
		sameWalk(t, "in another", inner, all)
		if path != all[count].path {
			t.Errorf("%q, not %q", path, all[count].path)
		}
		count++
	}
	if count != len(all) {
		t.Errorf("%d values, not %d", count, len(all))
	}
	for range 2 {
		var again []told
		walk(func(path string, x api.Json) bool {
			again = append(again, told{path, x})
			return true
		})
		sameWalk(t, "again", again, all)
	}
}

// P7.8, P7.9, P7.10, P7.12, P7.15: random values and paths against the second reckoning; Get undoes Set; each path of Walk leads to its value.
func TestPathsAgainstModel(t *testing.T) {
	rnd := rand.New(rand.NewSource(709))
	names := []string{"", "a", "b", "a~1b", "~0", "~01", "0", "1", "2", "-", "01", "é", "x", "~2", "\xff"}
	seen := map[api.Errno]int{}
	for range 20000 {
		v, x := randomValue(rnd, 4), randomValue(rnd, 2)
		all := modelWalk(v, "")
		sameWalk(t, "random", walked(v), all)
		path := all[rnd.Intn(len(all))].path
		for range rnd.Intn(3) {
			path += "/" + names[rnd.Intn(len(names))]
		}
		_, e := get(t, v, path)
		seen[e]++
		cut(t, v, path)
		w, e := set(t, v, path, x)
		seen[e]++
		if e == api.OK && !strings.HasSuffix(path, "/-") {
			got, e := get(t, w, path)
			same(t, "Get of Set", got, e, x, api.OK)
		}
	}
	for _, e := range []api.Errno{api.OK, api.ErrMissing, api.ErrScrollPath, api.ErrScrollText} {
		if seen[e] < 20 {
			t.Errorf("error %d came %d times", e, seen[e])
		}
	}
}
