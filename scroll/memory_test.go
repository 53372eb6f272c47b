package scroll_test

import (
	"math/rand"
	"strconv"
	"sync"
	"testing"

	"coffer/api"
	"coffer/scroll"
)

// roomy gives v in memory of its own, each list with spare room that holds something.
func roomy(v api.Json) api.Json {
	out := api.Json{Kind: v.Kind, Text: v.Text}
	for _, item := range v.Items {
		out.Items = append(out.Items, roomy(item))
	}
	out.Keys = append(out.Keys, v.Keys...)
	n, k := len(out.Items), len(out.Keys)
	for i := range 3 {
		out.Items = append(out.Items, api.Json{Kind: 50 + i, Text: "spare"})
		out.Keys = append(out.Keys, "spare"+strconv.Itoa(i))
	}
	out.Items, out.Keys = out.Items[:n], out.Keys[:k]
	return out
}

// all gives each value's lists with their spare room, as one text.
func all(v api.Json) string {
	s := strconv.Itoa(v.Kind) + strconv.Quote(v.Text) + "("
	for _, item := range v.Items[:cap(v.Items)] {
		s += all(item)
	}
	for _, k := range v.Keys[:cap(v.Keys)] {
		s += strconv.Quote(k)
	}
	return s + ")"
}

// spoil overwrites all lists of v, the spare room too: whoever shares memory with it shows it.
func spoil(v api.Json) {
	for i := range v.Items {
		spoil(v.Items[i])
	}
	items, keys := v.Items[:cap(v.Items)], v.Keys[:cap(v.Keys)]
	for i := range items {
		items[i] = api.Json{Kind: -7, Text: "spoilt"}
	}
	for i := range keys {
		keys[i] = "spoilt"
	}
}

// apart tells whether no two lists of v share memory: each gets marks of its own, and keeps them.
func apart(v api.Json) bool {
	var items [][]api.Json
	var keys [][]string
	var collect func(v api.Json)
	collect = func(v api.Json) {
		items, keys = append(items, v.Items[:cap(v.Items)]), append(keys, v.Keys[:cap(v.Keys)])
		for _, item := range v.Items {
			collect(item)
		}
	}
	collect(v)
	for i := range items {
		for j := range items[i] {
			items[i][j] = api.Json{Kind: i}
		}
		for j := range keys[i] {
			keys[i][j] = strconv.Itoa(i)
		}
	}
	for i := range items {
		for j := range items[i] {
			if items[i][j].Kind != i {
				return false
			}
		}
		for j := range keys[i] {
			if keys[i][j] != strconv.Itoa(i) {
				return false
			}
		}
	}
	return true
}

const sample = `{"a":[1.0,{"b":null,"c":[2,3]},[]],"d":{"e":"x","a":{}},"f":[[4],[5]]}`

// calls gives each call that answers a value, of two values.
func calls() map[string]func(v, x api.Json) api.Json {
	path := func(do func(api.Json, string) (api.Json, api.Errno), path string) func(v, x api.Json) api.Json {
		return func(v, _ api.Json) api.Json { out, _ := do(v, path); return out }
	}
	set := func(path string) func(v, x api.Json) api.Json {
		return func(v, x api.Json) api.Json { out, _ := scroll.Set(v, path, x); return out }
	}
	walk := func(n int) func(v, x api.Json) api.Json {
		return func(v, _ api.Json) (out api.Json) {
			for _, x := range scroll.Walk(v) {
				out = x
				if n--; n < 0 {
					break
				}
			}
			return out
		}
	}
	return map[string]func(v, x api.Json) api.Json{
		"Canon":            func(v, _ api.Json) api.Json { out, _ := scroll.Canon(v); return out },
		"Get the whole":    path(scroll.Get, ""),
		"Get a list":       path(scroll.Get, "/a"),
		"Get an object":    path(scroll.Get, "/a/1"),
		"Cut an item":      path(scroll.Cut, "/a/0"),
		"Cut the last":     path(scroll.Cut, "/f"),
		"Cut a member":     path(scroll.Cut, "/a"),
		"Cut within":       path(scroll.Cut, "/a/1/b"),
		"Set the whole":    set(""),
		"Set a member":     set("/a"),
		"Set a new one":    set("/z"),
		"Set an item":      set("/a/0"),
		"Set behind":       set("/a/-"),
		"Set within":       set("/a/1/c/2"),
		"Merge":            func(v, x api.Json) api.Json { out, _ := scroll.Merge(v, x); return out },
		"Merge the other":  func(v, x api.Json) api.Json { out, _ := scroll.Merge(x, v); return out },
		"Merge with list":  func(v, x api.Json) api.Json { out, _ := scroll.Merge(v, v.Items[0]); return out },
		"Merge with self":  func(v, _ api.Json) api.Json { out, _ := scroll.Merge(v, v); return out },
		"Merge into a new": func(v, _ api.Json) api.Json { out, _ := scroll.Merge(null, v); return out },
		"Walk's whole":     walk(0),
		"Walk's list":      walk(1),
		"Walk's object":    walk(3),
	}
}

// P1: no call changes what it is handed, and what is answered shares nothing with it, with another answer, or within itself; spare room too.
func TestNothingIsShared(t *testing.T) {
	first, second := value(t, sample), value(t, `{"a":{"n":[6,{"m":[]}]},"z":[7],"f":null,"d":{"e":[8]}}`)
	for name, call := range calls() {
		v, x := roomy(first), roomy(second)
		beforeV, beforeX := all(v), all(x)
		out := call(v, x)
		if isZero(out) {
			t.Fatalf("%s: no answer", name)
		}
		text := modelPrint(out, false)
		other := call(v, x)
		if all(v) != beforeV || all(x) != beforeX {
			t.Errorf("%s changes what it is handed", name)
		}
		spoil(other)
		if all(v) != beforeV || all(x) != beforeX {
			t.Errorf("%s answers what it was handed", name)
		}
		if modelPrint(out, false) != text {
			t.Errorf("%s: two answers share something", name)
		}
		spoil(v)
		spoil(x)
		if modelPrint(out, false) != text {
			t.Errorf("%s: its answer hangs on what it was handed", name)
		}
		if !apart(out) {
			t.Errorf("%s: two lists of its answer share something", name)
		}
	}
}

// P1: of x that stands in v, and of v itself, too.
func TestNothingIsSharedOfOneValue(t *testing.T) {
	v := roomy(value(t, sample))
	before := all(v)
	for _, path := range []string{"/a/-", "/d/a", "/new", "/f/0/0"} {
		for _, x := range []api.Json{v, v.Items[0], v.Items[1]} {
			out, e := scroll.Set(v, path, x)
			if e != api.OK || !apart(out) || all(v) != before {
				t.Errorf("Set(%q): %d", path, e)
			}
		}
	}
}

// P1: the calls that answer no value leave theirs as it was.
func TestAskingChangesNothing(t *testing.T) {
	v, w := roomy(value(t, sample)), roomy(value(t, sample))
	before := all(v)
	scroll.Check(v)
	scroll.Print(v)
	scroll.Pretty(v)
	scroll.Uint(v)
	scroll.Int(v)
	if !scroll.Same(v, w) {
		t.Error("Same")
	}
	for range scroll.Walk(v) {
	}
	scroll.Get(v, "/x")
	scroll.Set(v, "/a/9", w)
	scroll.Set(v, "/\xff", w)
	scroll.Cut(v, "/a/9")
	if all(v) != before || all(w) != before {
		t.Error("a value is changed")
	}
}

// P1: two readings of one text share nothing, and no two lists of one.
func TestParseShares(t *testing.T) {
	one, two := value2(t, sample), value2(t, sample)
	spoil(one)
	if got := modelPrint(two, false); got != sample {
		t.Errorf("two readings share something: %s", got)
	}
	if !apart(two) {
		t.Error("two lists share something")
	}
}

func value2(t *testing.T, text string) api.Json {
	t.Helper()
	v, e, _ := scroll.Parse(text)
	if e != api.OK {
		t.Fatal(e)
	}
	return v
}

// P7.12, P1: Walk tells the value as it was when it was called, whatever happens to it or to what was told, in the loop and between two.
func TestWalkKeepsNothing(t *testing.T) {
	v := roomy(value(t, sample))
	want := modelWalk(value(t, sample), "")
	before := all(v)
	walk := scroll.Walk(v)
	for path, x := range walk {
		if len(want) == 0 {
			t.Error(path)
		}
		spoil(x)
	}
	if all(v) != before {
		t.Error("what was told is the value itself")
	}
	spoil(v)
	v.Kind = api.JNull
	for range 2 {
		var got []told
		for path, x := range walk {
			got = append(got, told{path, roomy(x)})
			if !apart(x) {
				t.Errorf("%q: two lists share something", path)
			}
		}
		sameWalk(t, "behind a change", got, want)
	}
	w := roomy(value(t, sample))
	var got []told
	for path, x := range scroll.Walk(w) {
		got = append(got, told{path, x})
		spoil(w)
	}
	sameWalk(t, "changed in the loop", got, want)
}

// P1: the calls hang on their arguments alone: from many goroutines at once, on one value, they answer the same.
func TestManyGoroutines(t *testing.T) {
	v := roomy(value(t, sample))
	walk := scroll.Walk(v)
	want := modelWalk(value(t, sample), "")
	var group sync.WaitGroup
	for n := range 8 {
		group.Go(func() {
			rnd := rand.New(rand.NewSource(int64(n)))
			for range 50 {
				got, e, _ := scroll.Parse(sample)
				if e != api.OK || !scroll.Same(got, v) {
					t.Error("Parse")
				}
				if s, e := scroll.Print(v); e != api.OK || s != sample {
					t.Errorf("Print: %q, %d", s, e)
				}
				at := want[rnd.Intn(len(want))]
				if x, e := scroll.Get(v, at.path); e != api.OK || !equals(x, at.v) {
					t.Errorf("Get(%q): %d", at.path, e)
				}
				if w, e := scroll.Set(v, "/a/-", v); e != api.OK || len(w.Items[0].Items) != 4 {
					t.Errorf("Set: %d", e)
				}
				if _, e, at := scroll.Parse(sample[:20+n]); e != api.ErrScrollEnd || at != 20+n {
					t.Errorf("Parse of a beginning: %d at %d", e, at)
				}
				count := 0
				for path, x := range walk {
					if path != want[count].path || !equals(x, want[count].v) {
						t.Errorf("Walk: %q", path)
					}
					count++
				}
				if w, e := scroll.Merge(v, v); e != api.OK || w.Kind != api.JObject {
					t.Errorf("Merge: %d", e)
				}
			}
		})
	}
	group.Wait()
}
