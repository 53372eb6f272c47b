package scroll_test

import (
	"go/parser"
	"go/token"
	"math/rand"
	"path/filepath"
	"slices"
	"strconv"
	"strings"
	"testing"

	"coffer/api"
	"coffer/scroll"
)

func list(items ...api.Json) api.Json { return api.Json{Kind: api.JList, Items: items} }

func text(s string) api.Json { return api.Json{Kind: api.JText, Text: s} }

func number(s string) api.Json { return api.Json{Kind: api.JNumber, Text: s} }

// object gives one of members: key, value, key, value ..
func object(members ...any) api.Json {
	v := api.Json{Kind: api.JObject}
	for i := 0; i < len(members); i += 2 {
		v.Keys = append(v.Keys, members[i].(string))
		v.Items = append(v.Items, members[i+1].(api.Json))
	}
	return v
}

var (
	null   = api.Json{Kind: api.JNull}
	nulls  = []api.Json{null}
	broken = "\xc0\x80"
)

// faults gives values with one fault each, by its error.
func faults() map[string]struct {
	v   api.Json
	why api.Errno
} {
	type row = struct {
		v   api.Json
		why api.Errno
	}
	rows := map[string]row{
		"a number that is none": {number("01"), api.ErrScrollNumber},
		"an empty number":       {number(""), api.ErrScrollNumber},
		"a long number":         {number(strings.Repeat("9", 65)), api.ErrScrollNumber},
		"a number's long form":  {number("1." + strings.Repeat("1", 60)), api.ErrScrollNumber},
		"a broken text":         {text(broken), api.ErrScrollText},
		"a broken key":          {object("a", null, "b\xff", null), api.ErrScrollText},
		"a key twice":           {object("a", null, "b", null, "a", null), api.ErrScrollTwice},
		"the empty key twice":   {object("", null, "", null), api.ErrScrollTwice},
		"many values":           {listOf(65536), api.ErrScrollMany},
		"many members":          {manyMembers(65536), api.ErrScrollMany},
		"deep lists":            {nest(null, 33), api.ErrScrollDeep},
		"deep empty ones":       {nest(list(), 32), api.ErrScrollDeep},
		"deep objects":          {nest(object(), 32), api.ErrScrollDeep},
		"more keys":             {api.Json{Kind: api.JObject, Keys: []string{"a", "b"}, Items: nulls}, api.ErrScrollKind},
		"more items":            {api.Json{Kind: api.JObject, Keys: []string{"a"}, Items: []api.Json{null, null}}, api.ErrScrollKind},
		"no keys":               {api.Json{Kind: api.JObject, Items: nulls}, api.ErrScrollKind},
		"no items":              {api.Json{Kind: api.JObject, Keys: []string{"a"}}, api.ErrScrollKind},
	}
	for _, kind := range []int{0, -1, 8, 1 << 40, -1 << 63} {
		rows["kind "+strconv.Itoa(kind)] = row{api.Json{Kind: kind}, api.ErrScrollKind}
	}
	for kind, has := range map[int]string{1: "", 2: "", 3: "", 4: "text", 5: "text", 6: "items", 7: "keys items"} {
		for _, more := range []string{"text", "items", "keys"} {
			if strings.Contains(has, more) {
				continue
			}
			v := api.Json{Kind: kind}
			switch more {
			case "text":
				v.Text = " "
			case "items":
				v.Items = nulls
			case "keys":
				v.Keys = []string{""}
			}
			if kind == api.JNumber {
				v.Text = "1"
			}
			rows["kind "+strconv.Itoa(kind)+" with "+more] = row{v, api.ErrScrollKind}
		}
	}
	return rows
}

func manyMembers(n int) api.Json {
	v := api.Json{Kind: api.JObject}
	for i := range n {
		v.Keys = append(v.Keys, strconv.Itoa(i))
		v.Items = append(v.Items, null)
	}
	return v
}

func checks(t *testing.T, name string, v api.Json, want api.Errno) {
	t.Helper()
	if got := scroll.Check(v); got != want {
		t.Errorf("Check of %s: %d, not %d", name, got, want)
	}
	if got := modelCheck(v); got != want {
		t.Errorf("the model's Check of %s: %d, not %d", name, got, want)
	}
}

// P7.1: each fault by itself, at the whole value and within others.
func TestCheckEachFault(t *testing.T) {
	for name, row := range faults() {
		checks(t, name, row.v, row.why)
		checks(t, name+" in a list", list(null, row.v, null), row.why)
		checks(t, name+" in an object", object("a", list(), "b", row.v), row.why)
	}
}

// P7.1: what may be, up to its bounds.
func TestCheckWhatMayBe(t *testing.T) {
	for name, v := range map[string]api.Json{
		"null":                   null,
		"empty lists":            {Kind: api.JNull, Items: []api.Json{}, Keys: []string{}},
		"false":                  {Kind: api.JFalse},
		"true":                   {Kind: api.JTrue},
		"a number":               number("-1.5E+06"),
		"a number of 64 bytes":   number(strings.Repeat("9", 64)),
		"an empty text":          text(""),
		"a text":                 text("\x00 \x7fé\ufffd\U0010ffff"),
		"a text like a number":   text("01"),
		"a list":                 list(null, list(), null),
		"an object":              object("", null, "a", null, "A", null, "\x00", null),
		"an object's empty list": {Kind: api.JObject, Items: []api.Json{}, Keys: nil},
		"as many as may be":      listOf(65535),
		"as many members":        manyMembers(65535),
		"as deep as may be":      nest(list(), 31),
		"objects as deep":        nest(object(), 31),
		"a value in 32 lists":    nest(number("1"), 32),
		"the same text twice":    list(text("a"), text("a")),
		"a key in two objects":   list(object("a", null), object("a", object("a", null))),
	} {
		checks(t, name, v, api.OK)
	}
}

// P7.1: at one value the first fault of the list counts.
func TestCheckTwoFaultsAtOneValue(t *testing.T) {
	deep := func(v api.Json) api.Json { return nest(v, 32) }
	many := func(v api.Json) api.Json { // v is the value that is one too many
		w := listOf(65535)
		w.Items = append(w.Items, v)
		return w
	}
	innermost := func(v api.Json, n int) api.Json { // in a list that stands in 31, behind n nulls
		w := listOf(n)
		w.Items = append(w.Items, v)
		return nest(w, 31)
	}
	for name, row := range map[string]struct {
		v   api.Json
		why api.Errno
	}{
		"many, no kind":         {many(api.Json{}), api.ErrScrollMany},
		"many, no number":       {many(number("x")), api.ErrScrollMany},
		"many, no text":         {many(text(broken)), api.ErrScrollMany},
		"many, twice":           {many(object("a", null, "a", null)), api.ErrScrollMany},
		"many, deep":            {innermost(list(), 65536-32), api.ErrScrollMany},
		"deep, just not many":   {innermost(list(), 65536-33), api.ErrScrollDeep},
		"deep, a list's text":   {deep(api.Json{Kind: api.JList, Text: "x"}), api.ErrScrollDeep},
		"deep, more keys":       {deep(api.Json{Kind: api.JObject, Keys: []string{"a"}}), api.ErrScrollDeep},
		"deep, a broken key":    {deep(object(broken, null)), api.ErrScrollDeep},
		"deep, twice":           {deep(object("a", null, "a", null)), api.ErrScrollDeep},
		"kind 0 is not deep":    {deep(api.Json{Items: nulls}), api.ErrScrollKind},
		"kind 8 is not deep":    {deep(api.Json{Kind: 8, Items: nulls, Keys: []string{"a"}}), api.ErrScrollKind},
		"number, with items":    {api.Json{Kind: api.JNumber, Text: "x", Items: nulls}, api.ErrScrollKind},
		"text, with keys":       {api.Json{Kind: api.JText, Text: broken, Keys: []string{"a"}}, api.ErrScrollKind},
		"object, broken, text":  {api.Json{Kind: api.JObject, Text: "x", Keys: []string{broken}, Items: nulls}, api.ErrScrollKind},
		"object, broken, fewer": {api.Json{Kind: api.JObject, Keys: []string{broken, broken}, Items: nulls}, api.ErrScrollKind},
		"twice, fewer":          {api.Json{Kind: api.JObject, Keys: []string{"a", "a"}, Items: nulls}, api.ErrScrollKind},
		"twice, then broken":    {object("a", null, "a", null, broken, null), api.ErrScrollText},
		"broken twice":          {object(broken, null, broken, null), api.ErrScrollText},
	} {
		checks(t, name, row.v, row.why)
	}
}

// P7.1: of two faults in different places the first in the order counts: a value ahead of its items, items in their order.
func TestCheckTwoFaultsInTwoPlaces(t *testing.T) {
	all := faults()
	for a, one := range all {
		for b, other := range all {
			if one.why == api.ErrScrollMany || other.why == api.ErrScrollMany { // they reach over what follows: below
				continue
			}
			checks(t, a+", "+b, list(one.v, other.v), one.why)
			checks(t, a+" in an object, "+b, object("k", one.v, "l", other.v), one.why)
			if len(one.v.Items) == 0 || one.why == api.ErrScrollDeep {
				continue
			}
			over := one.v // its own fault comes ahead of an item's
			over.Items = slices.Clone(over.Items)
			over.Items[0] = other.v
			checks(t, a+" over "+b, over, one.why)
		}
	}
	wrongLast := listOf(65535)
	wrongLast.Items[65534] = api.Json{}
	checks(t, "a fault at the last good place", wrongLast, api.ErrScrollKind)
	wrongLast.Items = append(wrongLast.Items, null)
	checks(t, "a fault ahead of too many", wrongLast, api.ErrScrollKind)
	twice := manyMembers(65536)
	twice.Keys[65535] = "0"
	checks(t, "a key twice at an object of too many", twice, api.ErrScrollTwice)
	checks(t, "deep ahead of many", list(nest(list(), 32), listOf(65536)), api.ErrScrollDeep)
	checks(t, "many ahead of deep", list(listOf(65536), nest(list(), 32)), api.ErrScrollMany)
	checks(t, "many by all lists", list(listOf(30000), object("a", listOf(30000)), listOf(5531)), api.OK)
	checks(t, "many by all lists, one more", list(listOf(30000), object("a", listOf(30000)), listOf(5532)), api.ErrScrollMany)
}

// P7.1, P1: a list that holds itself is a list without end: each call ends, and tells a fault.
func TestListInItself(t *testing.T) {
	items := make([]api.Json, 3)
	self := api.Json{Kind: api.JList, Items: items}
	items[0] = self
	items[1], items[2] = null, null
	checks(t, "a list in itself", self, api.ErrScrollDeep)
	items[0], items[2] = null, self
	checks(t, "a list in itself, last", self, api.ErrScrollDeep)
	if s, e := scroll.Print(self); s != "" || e != api.ErrScrollDeep {
		t.Errorf("Print: %q, %d", s, e)
	}
	for range scroll.Walk(self) {
		t.Error("Walk tells something")
	}
	wide := make([]api.Json, 3) // in each of 31 lists three of the next: more than all counting tells
	for i := range wide {
		wide[i] = null
	}
	level := list(wide...)
	for range 30 {
		level = list(level, level, level)
	}
	checks(t, "lists that are shared", level, api.ErrScrollMany)
}

// P7.1: random values with random faults against the second reckoning.
func TestCheckAgainstModel(t *testing.T) {
	rnd := rand.New(rand.NewSource(701))
	seen := map[api.Errno]int{}
	for range 20000 {
		v := randomValue(rnd, 4)
		for range rnd.Intn(3) {
			spoilOne(rnd, &v)
		}
		want := modelCheck(v)
		seen[want]++
		if got := scroll.Check(v); got != want {
			t.Fatalf("%#v: %d, not %d", v, got, want)
		}
	}
	for _, e := range []api.Errno{api.OK, api.ErrScrollKind, api.ErrScrollNumber, api.ErrScrollText, api.ErrScrollTwice} {
		if seen[e] < 50 {
			t.Errorf("error %d came %d times", e, seen[e])
		}
	}
}

// spoilOne changes a value in v so that it may have a fault.
func spoilOne(rnd *rand.Rand, v *api.Json) {
	for len(v.Items) > 0 && rnd.Intn(4) > 0 {
		v = &v.Items[rnd.Intn(len(v.Items))]
	}
	switch rnd.Intn(6) {
	case 0:
		v.Kind = rnd.Intn(9)
	case 1:
		v.Text = []string{"", "1", "x", broken}[rnd.Intn(4)]
	case 2:
		v.Items = append(v.Items, null)
	case 3:
		v.Keys = append(v.Keys, "a")
	case 4:
		keys := append([]string{"a", broken}, v.Keys...)
		v.Items, v.Keys = append(v.Items, null), append(v.Keys, keys[rnd.Intn(len(keys))])
	case 5:
		v.Text += someTexts[rnd.Intn(len(someTexts))]
	}
}

// The package leans on api alone, and on the library's packages that may be.
func TestImports(t *testing.T) {
	files, err := filepath.Glob("*.go")
	if err != nil || len(files) == 0 {
		t.Fatal(files, err)
	}
	for _, name := range files {
		if strings.HasSuffix(name, "_test.go") {
			continue
		}
		f, err := parser.ParseFile(token.NewFileSet(), name, nil, parser.ImportsOnly)
		if err != nil {
			t.Fatal(err)
		}
		for _, i := range f.Imports {
			path, _ := strconv.Unquote(i.Path.Value)
			if !slices.Contains([]string{"coffer/api", "cmp", "iter", "slices", "strconv", "strings", "unicode/utf8"}, path) {
				t.Errorf("%s imports %s", name, path)
			}
		}
	}
}
