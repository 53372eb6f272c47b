package scroll_test

import (
	"strings"
	"testing"

	"coffer/api"
	"coffer/scroll"
)

// The chapter's examples, by their numbers.

func TestExample1(t *testing.T) {
	v, e, at := scroll.Parse(`{"a": [1, 2.50], "b":"\u00e9\ud83d\ude00"}`)
	if e != api.OK || at != 0 || !equals(v, object("a", list(number("1"), number("2.50")), "b", text("é😀"))) {
		t.Errorf("Parse: %#v, %d at %d", v, e, at)
	}
	if s, e := scroll.Print(v); e != api.OK || s != `{"a":[1,2.50],"b":"é😀"}` {
		t.Errorf("Print: %s, %d", s, e)
	}
}

func TestExample2(t *testing.T) {
	for _, row := range []struct {
		text  string
		why   api.Errno
		place int
	}{
		{"", api.ErrScrollEnd, 0}, {"[1,]", api.ErrScrollByte, 3}, {"[1 2]", api.ErrScrollByte, 3}, {`{"a":1,"a":2}`, api.ErrScrollTwice, 7}, {"01", api.ErrScrollMore, 1}, {"-", api.ErrScrollEnd, 1}, {"nul", api.ErrScrollEnd, 3}, {"nulL", api.ErrScrollByte, 3}, {`"a`, api.ErrScrollEnd, 2}, {`"\x"`, api.ErrScrollText, 2}, {`"\ud800"`, api.ErrScrollText, 1}, {"1 2", api.ErrScrollMore, 2}, {"[1.x]", api.ErrScrollByte, 3},
	} {
		refuses(t, row.text, row.why, row.place)
	}
}

func TestExample3(t *testing.T) {
	if v, e, at := scroll.Parse(strings.Repeat("[", 32) + strings.Repeat("]", 32)); e != api.OK || at != 0 || !equals(v, nest(list(), 31)) {
		t.Errorf("32: %d at %d", e, at)
	}
	refuses(t, strings.Repeat("[", 33)+strings.Repeat("]", 33), api.ErrScrollDeep, 32)
}

func TestExample4(t *testing.T) {
	for in, want := range map[string]string{"-0.0e5": "0", "1200": "1200", "12E+2": "1200", "1200.00": "1200", "1e20": "1e20", "1e19": "10000000000000000000", "1.5e-3": "0.0015", "1e-21": "1e-21", "123e-20": "0.00000000000000000123"} {
		if got, e := scroll.Normal(in); got != want || e != api.OK {
			t.Errorf("Normal(%q): %q, %d", in, got, e)
		}
	}
	if got, e := scroll.Normal("1.5e-999999"); got != "" || e != api.ErrScrollNumber {
		t.Errorf("Normal: %q, %d", got, e)
	}
}

func TestExample5(t *testing.T) {
	if u, e := scroll.Uint(number("1e3")); u != 1000 || e != api.OK {
		t.Errorf("Uint of 1e3: %d, %d", u, e)
	}
	for _, in := range []string{"1.5", "-1", "18446744073709551616"} {
		if u, e := scroll.Uint(number(in)); u != 0 || e != api.ErrScrollNumber {
			t.Errorf("Uint of %s: %d, %d", in, u, e)
		}
	}
	if u, e := scroll.Uint(text("1")); u != 0 || e != api.ErrScrollKind {
		t.Errorf("Uint of a text: %d, %d", u, e)
	}
}

func TestExample6(t *testing.T) {
	v := object("a/b", list(number("7")))
	got, e := scroll.Get(v, "/a~1b/0")
	same(t, "Get", got, e, number("7"), api.OK)
	for path, why := range map[string]api.Errno{"/a~1b/01": api.ErrMissing, "/a~1b/1": api.ErrMissing, "/x": api.ErrMissing, "a": api.ErrScrollPath, "/~2": api.ErrScrollPath} {
		got, e := scroll.Get(v, path)
		same(t, path, got, e, api.Json{}, why)
	}
	for _, path := range []string{"/-", "/1"} {
		got, e := scroll.Set(list(number("1")), path, number("2"))
		same(t, path, got, e, list(number("1"), number("2")), api.OK)
	}
	got, e = scroll.Set(list(number("1")), "/2", number("2"))
	same(t, "/2", got, e, api.Json{}, api.ErrMissing)
}

func TestExample7(t *testing.T) {
	got, e := scroll.Merge(value(t, `{"a":{"b":1,"c":2},"d":[1]}`), value(t, `{"a":{"b":null,"e":{"f":null}},"d":"x"}`))
	same(t, "Merge", got, e, value(t, `{"a":{"c":2,"e":{}},"d":"x"}`), api.OK)
}

func TestExample8(t *testing.T) {
	if s, e := scroll.Pretty(list(number("1"), object())); e != api.OK || s != "[\n  1,\n  {}\n]\n" {
		t.Errorf("Pretty: %q, %d", s, e)
	}
}
