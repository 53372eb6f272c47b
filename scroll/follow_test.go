package scroll_test

import (
	"math/rand"
	"strings"
	"testing"

	"coffer/api"
	"coffer/scroll"
)

// P7.13: what is printed is read as what it was.
func TestReadUndoesPrint(t *testing.T) {
	values := []api.Json{null, list(), object(), listOf(65535), manyMembers(65535), nest(list(), 31), nest(text("x"), 32), text(strings.Repeat("\x01", 600000)), number(strings.Repeat("9", 64))}
	rnd := rand.New(rand.NewSource(711))
	for range 10000 {
		values = append(values, randomValue(rnd, 5))
	}
	for _, v := range values {
		for _, p := range printers {
			s, e := p.print(v)
			if e != api.OK {
				t.Fatalf("%s: %d", p.name, e)
			}
			if got, e, at := scroll.Parse(s); e != api.OK || at != 0 || !equals(got, v) {
				t.Errorf("Parse(%s(%s)): %s, %d at %d", p.name, short(v), short(got), e, at)
			}
		}
	}
}

// loose writes a value with blanks, escapes and capital letters wherever they may be.
func loose(rnd *rand.Rand, v api.Json) string {
	blanks := func() string { return strings.Repeat(" \t\n\r"[rnd.Intn(4):], rnd.Intn(2)) }
	quoted := func(s string) string {
		var out strings.Builder
		for _, r := range s {
			switch {
			case r < 0x10000 && rnd.Intn(2) == 0:
				digits := []byte("0000")
				for i, n := 3, int(r); i >= 0; i, n = i-1, n/16 {
					digits[i] = "0123456789abcdef0123456789ABCDEF"[n%16+16*rnd.Intn(2)]
				}
				out.WriteString(`\u` + string(digits))
			case r == '/' && rnd.Intn(2) == 0:
				out.WriteString(`\/`)
			default:
				q := modelQuote(string(r))
				out.WriteString(q[1 : len(q)-1])
			}
		}
		return `"` + out.String() + `"`
	}
	var parts []string
	for i, item := range v.Items {
		part := loose(rnd, item)
		if v.Kind == api.JObject {
			part = blanks() + quoted(v.Keys[i]) + blanks() + ":" + part
		}
		parts = append(parts, part)
	}
	inner := strings.Join(parts, ",") + blanks()
	switch v.Kind {
	case api.JText:
		inner = quoted(v.Text)
	case api.JList:
		inner = "[" + inner + "]"
	case api.JObject:
		inner = "{" + inner + "}"
	default:
		inner = modelPrint(v, false)
	}
	return blanks() + inner + blanks()
}

// P7.13: however a value is written, it is printed as a text that is read as the same, and that is printed as itself.
func TestPrintUndoesRead(t *testing.T) {
	rnd := rand.New(rand.NewSource(712))
	for range 10000 {
		v := randomValue(rnd, 4)
		s := loose(rnd, v)
		got, e, at := scroll.Parse(s)
		if e != api.OK || !equals(got, v) {
			t.Fatalf("Parse(%q): %s, %d at %d", s, short(got), e, at)
		}
		for _, p := range printers {
			one, _ := p.print(got)
			again, e, _ := scroll.Parse(one)
			other, _ := p.print(again)
			if e != api.OK || !equals(again, got) || other != one {
				t.Errorf("%s: %q, then %q", p.name, one, other)
			}
		}
	}
}

// parts cuts a text that is read into its parts: marks, words, numbers, texts.
func parts(s string) []string {
	var all []string
	for s = strings.TrimLeft(s, " \t\n\r"); s != ""; s = strings.TrimLeft(s, " \t\n\r") {
		n := 1
		switch {
		case s[0] == '"':
			_, end, e, _ := modelQuoted(s, 0)
			if n = end; e != api.OK {
				n = len(s)
			}
		case strings.IndexByte("[]{},:", s[0]) < 0:
			n = strings.IndexAny(s+" ", " \t\n\r[]{},:\"")
		}
		all, s = append(all, s[:n]), s[n:]
	}
	return all
}

// P7.14: blanks between the parts change neither what is read nor whether; within a word, a number or quotes they are not between parts.
func TestBlanksBetweenParts(t *testing.T) {
	rnd := rand.New(rand.NewSource(713))
	texts := []string{"[1,]", "[,]", "{\"a\":1,\"a\":2}", "{\"a\" 1}", "[1 2]", "[]]", "1 2", "]", "[tru]", "[01]", "{\"a\":\"\\x\"}", "[1.5e-999999]", strings.Repeat("[", 33), ""}
	for range 2000 {
		texts = append(texts, modelPrint(randomValue(rnd, 4), false))
	}
	for _, s := range texts {
		want, why, _ := scroll.Parse(s)
		for _, blank := range []string{" ", "\t", "\n", "\r", " \r\n\t "} {
			wide := blank + strings.Join(parts(s), blank) + blank
			if strings.Contains(s, "01") && why != api.OK { // parts of one number's form, which blanks would part
				continue
			}
			got, e, _ := scroll.Parse(wide)
			if e != why || !equals(got, want) {
				t.Errorf("Parse(%q): %s, %d, not %s, %d", wide, short(got), e, short(want), why)
			}
		}
	}
	for _, s := range []string{"nu ll", "1 0", "- 1", "1 .5", "1. 5", "1 e5", "1e 5", "1e+ 5", `"\ u0041"`, `"\u00 41"`} {
		if _, e, _ := scroll.Parse(s); e == api.OK {
			t.Errorf("Parse(%q) is read", s)
		}
	}
	reads(t, `" a "`, text(" a "))
}

// P7.14: no proper beginning of a text that ends with a bracket, a brace or a quote is read; of a number some are.
func TestNoBeginningIsRead(t *testing.T) {
	rnd := rand.New(rand.NewSource(714))
	count := 0
	for range 3000 {
		s := strings.TrimRight(loose(rnd, randomValue(rnd, 3)), " \t\n\r")
		if strings.IndexByte(`]}"`, s[len(s)-1]) < 0 {
			continue
		}
		count++
		for n := range len(s) {
			v, e, at := scroll.Parse(s[:n])
			if e == api.OK || at > n || !isZero(v) {
				t.Fatalf("Parse(%q): %d at %d", s[:n], e, at)
			}
		}
	}
	if count < 1000 {
		t.Errorf("%d texts", count)
	}
	reads(t, "12", number("12"))
	reads(t, "1", number("1"))
}
