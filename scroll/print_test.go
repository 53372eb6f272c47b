package scroll_test

import (
	"bytes"
	"encoding/json"
	"math/rand"
	"strings"
	"testing"

	"coffer/api"
	"coffer/scroll"
)

type printer struct {
	name   string
	print  func(api.Json) (string, api.Errno)
	pretty bool
}

var printers = []printer{{"Print", scroll.Print, false}, {"Pretty", scroll.Pretty, true}}

// prints holds both texts of a value against those that are wanted, and against the second reckoning.
func prints(t *testing.T, v api.Json, plain, pretty string) {
	t.Helper()
	for _, p := range printers {
		want := plain
		if p.pretty {
			want = pretty
		}
		if got, e := p.print(v); e != api.OK || got != want {
			t.Errorf("%s: %.100q, %d, not %.100q", p.name, got, e, want)
		}
		if got := modelPrint(v, p.pretty); got != want {
			t.Errorf("the model's %s: %.100q, not %.100q", p.name, got, want)
		}
	}
}

// P7.3, P7.4: each kind, empty lists and objects, nested ones, members in their order.
func TestPrintValues(t *testing.T) {
	for _, row := range []struct {
		v             api.Json
		plain, pretty string
	}{
		{null, "null", "null\n"},
		{api.Json{Kind: api.JFalse}, "false", "false\n"},
		{api.Json{Kind: api.JTrue}, "true", "true\n"},
		{number("-1.50E+07"), "-1.50E+07", "-1.50E+07\n"},
		{text("a b"), `"a b"`, "\"a b\"\n"},
		{list(), "[]", "[]\n"},
		{api.Json{Kind: api.JList, Items: []api.Json{}}, "[]", "[]\n"},
		{object(), "{}", "{}\n"},
		{list(null), "[null]", "[\n  null\n]\n"},
		{list(number("1"), number("2")), "[1,2]", "[\n  1,\n  2\n]\n"},
		{list(list(), object(), list(list())), "[[],{},[[]]]", "[\n  [],\n  {},\n  [\n    []\n  ]\n]\n"},
		{object("b", number("1"), "a", list()), `{"b":1,"a":[]}`, "{\n  \"b\": 1,\n  \"a\": []\n}\n"},
		{object("", object("k\n", list(null, object()))), `{"":{"k\n":[null,{}]}}`, "{\n  \"\": {\n    \"k\\n\": [\n      null,\n      {}\n    ]\n  }\n}\n"},
		{list(object("a", null), object("a", null)), `[{"a":null},{"a":null}]`, "[\n  {\n    \"a\": null\n  },\n  {\n    \"a\": null\n  }\n]\n"},
	} {
		prints(t, row.v, row.plain, row.pretty)
	}
	lists := strings.Repeat("[", 32) + strings.Repeat("]", 32)
	var lines strings.Builder
	for i := range 31 {
		lines.WriteString(strings.Repeat("  ", i) + "[\n")
	}
	lines.WriteString(strings.Repeat("  ", 31) + "[]\n")
	for i := 30; i >= 0; i-- {
		lines.WriteString(strings.Repeat("  ", i) + "]\n")
	}
	prints(t, nest(list(), 31), lists, lines.String())
}

// P7.3: each byte that is written otherwise, and each other one as it is, in a text and in a key.
func TestPrintEveryLetter(t *testing.T) {
	short := map[rune]string{'"': `\"`, '\\': `\\`, 8: `\b`, 12: `\f`, 10: `\n`, 13: `\r`, 9: `\t`}
	const hex = "0123456789abcdef"
	for r := rune(0); r <= 0x10ffff; r++ {
		if r >= 0xd800 && r < 0xe000 {
			continue
		}
		want := string(r)
		if s, ok := short[r]; ok {
			want = s
		} else if r < 32 {
			want = `\u00` + string([]byte{hex[r/16], hex[r%16]})
		}
		if got, e := scroll.Print(text("x" + string(r) + "y")); e != api.OK || got != `"x`+want+`y"` {
			t.Fatalf("%x: %q, %d", r, got, e)
		}
		if r < 300 {
			prints(t, object(string(r), null), `{"`+want+`":null}`, "{\n  \""+want+"\": null\n}\n")
		}
	}
}

// P7.3, P7.4: Check's error, whichever it is, and ahead of a length that may not be.
func TestPrintWhatMayNotBe(t *testing.T) {
	long := text(strings.Repeat("x", api.MaxScroll+1))
	for name, row := range faults() {
		for _, p := range printers {
			for _, v := range []api.Json{row.v, list(row.v), list(long, row.v)} {
				if s, e := p.print(v); s != "" || e != row.why {
					t.Errorf("%s of %s: %.20q, %d, not %d", p.name, name, s, e, row.why)
				}
			}
		}
	}
}

// P7.3, P7.4: a text that is just as long as may be, and one byte longer, whatever its last byte is of.
func TestPrintLength(t *testing.T) {
	t.Parallel()
	n := api.MaxScroll
	repeat := strings.Repeat
	for name, row := range map[string]struct {
		fill     func(x int) api.Json // x bytes more make a text x bytes longer
		bare     int                  // the bytes of Print at x = 0
		inPretty int                  // and so many more in Pretty
	}{
		"a text":              {func(x int) api.Json { return text(repeat("a", x)) }, 2, 1},
		"two-byte letters":    {func(x int) api.Json { return text(repeat("a", x%2) + repeat("é", x/2)) }, 2, 1},
		"letters ahead":       {func(x int) api.Json { return text(repeat("é", x/2) + repeat("a", x%2)) }, 2, 1},
		"four-byte letters":   {func(x int) api.Json { return text(repeat("a", x%4) + repeat("😀", x/4)) }, 2, 1},
		"quotes":              {func(x int) api.Json { return text(repeat("a", x%2) + repeat(`"`, x/2)) }, 2, 1},
		"numbered bytes":      {func(x int) api.Json { return text(repeat("a", x%6) + repeat("\x01", x/6)) }, 2, 1},
		"numbered ahead":      {func(x int) api.Json { return text(repeat("\x1f", x/6) + repeat("a", x%6)) }, 2, 1},
		"a key":               {func(x int) api.Json { return object(repeat("k", x), null) }, 9, 6},
		"a text in a list":    {func(x int) api.Json { return list(text(repeat("a", x)), text("b")) }, 8, 8},
		"a number behind":     {func(x int) api.Json { return list(text(repeat("a", x)), number(repeat("7", 64))) }, 69, 8},
		"a word behind":       {func(x int) api.Json { return list(text(repeat("a", x)), null) }, 9, 8},
		"an empty one behind": {func(x int) api.Json { return list(text(repeat("a", x)), list()) }, 7, 8},
		"an object behind":    {func(x int) api.Json { return list(text(repeat("a", x)), object("k", null)) }, 15, 17},
		"another text behind": {func(x int) api.Json { return list(text(repeat("a", x)), text("\"\n")) }, 11, 8},
	} {
		t.Run(name, func(t *testing.T) {
			t.Parallel()
			for _, p := range printers {
				most := n - row.bare
				if p.pretty {
					most -= row.inPretty
				}
				v := row.fill(most)
				if s, e := p.print(v); e != api.OK || len(s) != n || s != modelPrint(v, p.pretty) {
					t.Errorf("%s: %d bytes, %d", p.name, len(s), e)
				}
				for _, more := range []int{1, 6} {
					if s, e := p.print(row.fill(most + more)); s != "" || e != api.ErrLong {
						t.Errorf("%s, %d more: %d bytes, %d", p.name, more, len(s), e)
					}
				}
			}
		})
	}
}

// P7.3, P7.4: what is far too long, and what is too long by its spaces alone.
func TestPrintMuch(t *testing.T) {
	huge := text(strings.Repeat("\x00", 3*api.MaxScroll))
	for _, p := range printers {
		if s, e := p.print(list(huge, huge, huge)); s != "" || e != api.ErrLong {
			t.Errorf("%s of much: %d bytes, %d", p.name, len(s), e)
		}
	}
	spaces := nest(listOf(65000), 31) // not too long, but for its spaces
	if s, e := scroll.Print(spaces); e != api.OK || len(s) != 64+5*65000-1 {
		t.Errorf("Print: %d bytes, %d", len(s), e)
	}
	if s, e := scroll.Pretty(spaces); s != "" || e != api.ErrLong {
		t.Errorf("Pretty: %d bytes, %d", len(s), e)
	}
}

// P7.3, P7.4: random values against the second reckoning, and against the library's way to set out a text.
func TestPrintAgainstModel(t *testing.T) {
	rnd := rand.New(rand.NewSource(703))
	for range 10000 {
		v := randomValue(rnd, 5)
		prints(t, v, modelPrint(v, false), modelPrint(v, true))
		plain, _ := scroll.Print(v)
		pretty, _ := scroll.Pretty(v)
		var out bytes.Buffer
		if err := json.Indent(&out, []byte(plain), "", "  "); err != nil || out.String()+"\n" != pretty {
			t.Errorf("the library's lines of %q: %v", plain, err)
		}
		out.Reset()
		if err := json.Compact(&out, []byte(pretty)); err != nil || out.String() != plain {
			t.Errorf("the library's short form of %q: %v", pretty, err)
		}
	}
}
