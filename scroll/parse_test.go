package scroll_test

import (
	"encoding/json"
	"math/rand"
	"regexp"
	"strconv"
	"strings"
	"testing"
	"unicode/utf16"
	"unicode/utf8"

	"coffer/api"
	"coffer/scroll"
)

// refuses holds a fault and its place against what the chapter says.
func refuses(t *testing.T, text string, why api.Errno, place int) {
	t.Helper()
	parses(t, text)
	if v, e, at := scroll.Parse(text); e != why || at != place || !isZero(v) {
		t.Errorf("Parse(%.100q): %d at %d, not %d at %d", text, e, at, why, place)
	}
}

// reads holds what a text is read as against a value.
func reads(t *testing.T, text string, want api.Json) {
	t.Helper()
	parses(t, text)
	if v, e, at := scroll.Parse(text); e != api.OK || at != 0 || !equals(v, want) {
		t.Errorf("Parse(%.100q): %s, %d at %d, not %s", text, short(v), e, at, short(want))
	}
}

// P7.2: each kind of value, and blanks wherever they may be.
func TestParseValues(t *testing.T) {
	for text, want := range map[string]api.Json{
		"null":                    null,
		"false":                   {Kind: api.JFalse},
		"true":                    {Kind: api.JTrue},
		"0":                       number("0"),
		"-0.0e+00":                number("-0.0e+00"),
		`""`:                      text(""),
		`"null"`:                  text("null"),
		"[]":                      list(),
		"[ \t\r\n]":               list(),
		"{}":                      object(),
		"{\n\n}":                  object(),
		" \t\r\n1 \t\r\n":         number("1"),
		"[1]":                     list(number("1")),
		"[ 1 , [ ] , { } ]":       list(number("1"), list(), object()),
		`{"a":null}`:              object("a", null),
		` { "a" : null , "" : 1}`: object("a", null, "", number("1")),
		`[[[1]],[2,3]]`:           list(list(list(number("1"))), list(number("2"), number("3"))),
		`{"a":{"a":{"a":[]}}}`:    object("a", object("a", object("a", list()))),
		`[{"a":1},{"a":2}]`:       list(object("a", number("1")), object("a", number("2"))),
		`{"b":1,"a":2,"A":3}`:     object("b", number("1"), "a", number("2"), "A", number("3")),
		`[1.0,1,10e-1]`:           list(number("1.0"), number("1"), number("10e-1")),
		`["a","a"]`:               list(text("a"), text("a")),
	} {
		reads(t, text, want)
	}
}

// P7.2: each fault with its place; at the text's end; what may not go on.
func TestParseFaults(t *testing.T) {
	for _, row := range []struct {
		text  string
		why   api.Errno
		place int
	}{
		{"", api.ErrScrollEnd, 0}, {" \n", api.ErrScrollEnd, 2},
		{"n", api.ErrScrollEnd, 1}, {"nul", api.ErrScrollEnd, 3}, {"fals", api.ErrScrollEnd, 4}, {"tru", api.ErrScrollEnd, 3},
		{"[", api.ErrScrollEnd, 1}, {"[ ", api.ErrScrollEnd, 2}, {"[1", api.ErrScrollEnd, 2}, {"[1 ", api.ErrScrollEnd, 3}, {"[1,", api.ErrScrollEnd, 3}, {"[1,2", api.ErrScrollEnd, 4},
		{"{", api.ErrScrollEnd, 1}, {`{"a"`, api.ErrScrollEnd, 4}, {`{"a":`, api.ErrScrollEnd, 5}, {`{"a":1`, api.ErrScrollEnd, 6}, {`{"a":1,`, api.ErrScrollEnd, 7}, {`{"a":1, `, api.ErrScrollEnd, 8},
		{`{"a`, api.ErrScrollEnd, 3}, {`"`, api.ErrScrollEnd, 1}, {`"a`, api.ErrScrollEnd, 2}, {`"\`, api.ErrScrollEnd, 2}, {`"\u`, api.ErrScrollEnd, 3}, {`"\u00`, api.ErrScrollEnd, 5}, {`"\u0041`, api.ErrScrollEnd, 7},
		{"-", api.ErrScrollEnd, 1}, {"1.", api.ErrScrollEnd, 2}, {"1e", api.ErrScrollEnd, 2}, {"1e+", api.ErrScrollEnd, 3}, {"1e-", api.ErrScrollEnd, 3}, {"[-", api.ErrScrollEnd, 2},

		{"x", api.ErrScrollByte, 0}, {" x", api.ErrScrollByte, 1}, {"\x00", api.ErrScrollByte, 0}, {"\v1", api.ErrScrollByte, 0}, {"\ufeff1", api.ErrScrollByte, 0}, {"'a'", api.ErrScrollByte, 0}, {"N", api.ErrScrollByte, 0},
		{"nulL", api.ErrScrollByte, 3}, {"nxll", api.ErrScrollByte, 1}, {"falze", api.ErrScrollByte, 3}, {"t ue", api.ErrScrollByte, 1}, {"n\x00", api.ErrScrollByte, 1},
		{"]", api.ErrScrollByte, 0}, {"}", api.ErrScrollByte, 0}, {",", api.ErrScrollByte, 0}, {":", api.ErrScrollByte, 0},
		{"[1,]", api.ErrScrollByte, 3}, {"[,1]", api.ErrScrollByte, 1}, {"[1 2]", api.ErrScrollByte, 3}, {"[1}", api.ErrScrollByte, 2}, {"[}", api.ErrScrollByte, 1}, {"[1:2]", api.ErrScrollByte, 2}, {"[nullx]", api.ErrScrollByte, 5}, {"[\x00]", api.ErrScrollByte, 1},
		{"{]", api.ErrScrollByte, 1}, {"{1:2}", api.ErrScrollByte, 1}, {"{a:2}", api.ErrScrollByte, 1}, {"{,}", api.ErrScrollByte, 1}, {`{"a"}`, api.ErrScrollByte, 4}, {`{"a",`, api.ErrScrollByte, 4}, {`{"a" 1}`, api.ErrScrollByte, 5}, {`{"a"::1}`, api.ErrScrollByte, 5}, {`{"a":}`, api.ErrScrollByte, 5}, {`{"a":1,}`, api.ErrScrollByte, 7}, {`{"a":1]`, api.ErrScrollByte, 6}, {`{"a":1 "b":2}`, api.ErrScrollByte, 7}, {`{"a":1,2}`, api.ErrScrollByte, 7}, {`{"a":1,null:2}`, api.ErrScrollByte, 7},
		{"+1", api.ErrScrollByte, 0}, {".5", api.ErrScrollByte, 0}, {"-x", api.ErrScrollByte, 1}, {"--1", api.ErrScrollByte, 1}, {"-.5", api.ErrScrollByte, 1}, {"1.x", api.ErrScrollByte, 2}, {"[1.x]", api.ErrScrollByte, 3}, {"1.e5", api.ErrScrollByte, 2}, {"1ex", api.ErrScrollByte, 2}, {"1e+-5", api.ErrScrollByte, 3}, {"1e+ 5", api.ErrScrollByte, 3}, {"[01]", api.ErrScrollByte, 2}, {"[-01]", api.ErrScrollByte, 3}, {"[1e1234567]", api.ErrScrollByte, 9}, {"[1e+1234567]", api.ErrScrollByte, 10}, {"[1.5.5]", api.ErrScrollByte, 4}, {"[1e5e5]", api.ErrScrollByte, 4}, {"[1e5.5]", api.ErrScrollByte, 4}, {"[0x1]", api.ErrScrollByte, 2}, {"[1_0]", api.ErrScrollByte, 2}, {"[1-1]", api.ErrScrollByte, 2},

		{"01", api.ErrScrollMore, 1}, {"-01", api.ErrScrollMore, 2}, {"1 2", api.ErrScrollMore, 2}, {"1e1234567", api.ErrScrollMore, 8}, {"null null", api.ErrScrollMore, 5}, {"nullx", api.ErrScrollMore, 4}, {"[]]", api.ErrScrollMore, 2}, {"{},", api.ErrScrollMore, 2}, {`"a""b"`, api.ErrScrollMore, 3}, {"1\x00", api.ErrScrollMore, 1}, {"1\xff", api.ErrScrollMore, 1}, {"1//", api.ErrScrollMore, 1}, {"1 \v", api.ErrScrollMore, 2},

		{`{"a":1,"a":2}`, api.ErrScrollTwice, 7}, {`{"a":1,"a`, api.ErrScrollEnd, 9}, {`{"a":1,"a"`, api.ErrScrollTwice, 7}, {`{"a":1,"a"x`, api.ErrScrollTwice, 7}, {`{"a":1, "a" :x`, api.ErrScrollTwice, 8}, {`{"a":1,"\u0061":2}`, api.ErrScrollTwice, 7}, {`{"\u0061":1,"b":1,"a":2}`, api.ErrScrollTwice, 18}, {`{"":1,"":2}`, api.ErrScrollTwice, 6}, {`[{"k":{"a":1,"b":2,"a":3}}]`, api.ErrScrollTwice, 19}, {`{"a":1,"b":2,"b":3,"a":4}`, api.ErrScrollTwice, 13},
	} {
		refuses(t, row.text, row.why, row.place)
	}
	for _, good := range []string{`{"a":1,"A":2}`, `{"a":{"a":1}}`, `[{"a":1},{"a":1}]`, `{"a":"a","b":"a"}`, `{"é":1,"e\u0301":2}`} {
		if _, e := parses(t, good); e != api.OK {
			t.Errorf("Parse(%q): %d", good, e)
		}
	}
}

// P7.2: of two faults the first counts.
func TestParseFirstFault(t *testing.T) {
	nines := strings.Repeat("9", 65)
	for _, row := range []struct {
		text  string
		why   api.Errno
		place int
	}{
		{`["\x",]`, api.ErrScrollText, 3}, {`[,"\x"]`, api.ErrScrollByte, 1}, {`{"a":1,"a":"\x"}`, api.ErrScrollTwice, 7}, {`{"a":"\x","a":1}`, api.ErrScrollText, 7}, {`{"a":1,"a\x":2}`, api.ErrScrollText, 10},
		{"[1,] x", api.ErrScrollByte, 3}, {"[] x,]", api.ErrScrollMore, 3}, {"\"\x01\xff", api.ErrScrollText, 1}, {"\"a\xff\\x", api.ErrScrollText, 2},
		{nines, api.ErrScrollNumber, 0}, {nines + "x", api.ErrScrollNumber, 0}, {" " + nines + " x", api.ErrScrollNumber, 1}, {"[" + nines, api.ErrScrollNumber, 1}, {"[" + nines + "x", api.ErrScrollNumber, 1},
		{nines + ".", api.ErrScrollEnd, 66}, {nines + ".x", api.ErrScrollByte, 66}, {nines + "e", api.ErrScrollEnd, 66}, {nines + "e+x", api.ErrScrollByte, 67}, {"-" + nines + "e1234567", api.ErrScrollNumber, 0},
		{"[1.5e-999999]", api.ErrScrollNumber, 1}, {"1.5e-9999999", api.ErrScrollNumber, 0}, {"10e999999", api.ErrScrollNumber, 0}, {`{"a":10e999999,"a":1}`, api.ErrScrollNumber, 5}, {"[10e9999990]", api.ErrScrollNumber, 1},
		{`[10e999999,"\x"]`, api.ErrScrollNumber, 1}, {`["\x",10e999999]`, api.ErrScrollText, 3},
	} {
		refuses(t, row.text, row.why, row.place)
	}
}

// P7.2: a number of as many bytes as may be, and of one more; whose one form is just as long as may be, and one longer.
func TestParseNumberBounds(t *testing.T) {
	ones := func(n int) string { return strings.Repeat("1", n) }
	for _, row := range []struct {
		number string
		good   bool
	}{
		{ones(64), true}, {ones(65), false}, {"-" + ones(63), true}, {"-" + ones(64), false}, {"0." + zeros(62), true}, {"0." + zeros(63), false}, {"1." + zeros(62), true}, {"1." + zeros(63), false}, {"1" + zeros(63), true}, {"1" + zeros(64), false}, {"0." + zeros(57) + "e+00", true}, {"0." + zeros(59) + "e+00", false}, {zeros(1) + "." + zeros(5000), false},
		{"1." + ones(59), true}, {"1." + ones(60), false}, {"-1." + ones(58), true}, {"-1." + ones(59), false}, {"0." + ones(60), true}, {"0." + ones(61), false},
		{"1e999999", true}, {"10e999998", true}, {"10e999999", false}, {"1e-999999", true}, {"0.1e-999998", true}, {"0.1e-999999", false}, {"0e999999", true}, {"0.0e-999999", true}, {"-0.00E-999999", true},
	} {
		if row.good {
			reads(t, row.number, number(row.number))
			reads(t, "["+row.number+"]", list(number(row.number)))
			continue
		}
		refuses(t, row.number, api.ErrScrollNumber, 0)
		refuses(t, "[0, "+row.number+"]", api.ErrScrollNumber, 4)
	}
}

// P7.2: a text of as many bytes as may be, and of one more.
func TestParseLength(t *testing.T) {
	blanks := strings.Repeat(" ", api.MaxScroll-1)
	reads(t, blanks+"1", number("1"))
	reads(t, "1"+blanks, number("1"))
	refuses(t, blanks+" ", api.ErrScrollEnd, api.MaxScroll)
	refuses(t, blanks+"[", api.ErrScrollEnd, api.MaxScroll)
	refuses(t, "x"+blanks, api.ErrScrollByte, 0)
	for _, long := range []string{blanks + " 1", "1" + blanks + " ", "x" + blanks + " ", strings.Repeat("[", api.MaxScroll+1), blanks + blanks + blanks} {
		refuses(t, long, api.ErrLong, api.MaxScroll)
	}
	letters := strings.Repeat("é", api.MaxScroll/2-1)
	reads(t, `"`+letters+`"`, text(letters))
	refuses(t, `"`+letters+`""`, api.ErrLong, api.MaxScroll)
	digits := strings.Repeat("1", api.MaxScroll)
	refuses(t, digits, api.ErrScrollNumber, 0)
	refuses(t, digits[1:]+".", api.ErrScrollEnd, api.MaxScroll)
}

// P7.2: so many values, and so deep, and not one more; a value that is too many is told at its first byte, ahead of all that is wrong behind it.
func TestParseManyAndDeep(t *testing.T) {
	t.Parallel()
	ones := func(n int) string { return strings.Repeat("1,", n) }
	full := "[" + ones(65534) + "1]" // 65536 values
	if v, e := parses(t, full); e != api.OK || len(v.Items) != 65535 {
		t.Errorf("65536 values: %d", e)
	}
	at := 1 + 2*65535
	for _, more := range []string{"1", "-", "n", "nul", `"`, `"\x`, "[", "{", "-x", "true", "[[[", strings.Repeat("9", 65)} {
		refuses(t, "["+ones(65535)+more, api.ErrScrollMany, at)
		refuses(t, "["+ones(65535)+" \n"+more, api.ErrScrollMany, at+2)
	}
	for _, none := range []string{"]", "x", ",", ":", "}", "\x00", "+1", "\xff"} {
		refuses(t, "["+ones(65535)+none, api.ErrScrollByte, at)
	}
	refuses(t, "["+ones(65535), api.ErrScrollEnd, at)
	refuses(t, "["+ones(65535)+"  ", api.ErrScrollEnd, at+2)
	var members strings.Builder
	for i := range 65535 {
		members.WriteString(`"` + strconv.Itoa(i) + `":0,`)
	}
	open := "{" + members.String()
	refuses(t, open+`"x":0}`, api.ErrScrollMany, len(open)+4)
	refuses(t, open+`"0":0}`, api.ErrScrollTwice, len(open))
	if v, e := parses(t, open[:len(open)-1]+"}"); e != api.OK || len(v.Keys) != 65535 {
		t.Errorf("an object of 65535 members: %d", e)
	}

	for open, shut := range map[string]string{"[": "]", `{"a":`: "}", "[\n ": "]"} {
		core, deeper := "[]", "[[]]"
		if shut == "}" {
			core, deeper = "{}", `{"b":{}}`
		}
		reads31 := strings.Repeat(open, 31) + core + strings.Repeat(shut, 31)
		if _, e := parses(t, reads31); e != api.OK {
			t.Errorf("32 deep: %d", e)
		}
		refuses(t, strings.Repeat(open, 31)+deeper+strings.Repeat(shut, 31), api.ErrScrollDeep, 31*len(open)+strings.LastIndexAny(deeper, "[{"))
		refuses(t, strings.Repeat(open, 32)+"{", api.ErrScrollDeep, 32*len(open))
		refuses(t, strings.Repeat(open, 32)+"[", api.ErrScrollDeep, 32*len(open))
		refuses(t, strings.Repeat(open, 32)+"x", api.ErrScrollByte, 32*len(open))
		if _, e := parses(t, strings.Repeat(open, 32)+`"["`+strings.Repeat(shut, 32)); e != api.OK {
			t.Errorf("a text in 32: %d", e)
		}
	}
	inner := strings.Repeat("[", 32) // 32 values, and then so many ones ahead of one that is too deep
	refuses(t, inner+ones(65536-32)+"[", api.ErrScrollMany, 32+2*(65536-32))
	refuses(t, inner+ones(65536-33)+"[", api.ErrScrollDeep, 32+2*(65536-33))
	reads(t, "[[],[],{\"a\":[]},[]]", list(list(), list(), object("a", list()), list()))
	refuses(t, strings.Repeat("[", 100000), api.ErrScrollDeep, 32)
}

// P7.2: each way to write a byte or a letter in quotes.
func TestParseQuotes(t *testing.T) {
	for b := range 256 {
		raw := `"a` + string([]byte{byte(b)}) + `b"`
		switch {
		case b == '"':
			refuses(t, raw, api.ErrScrollMore, 3)
		case b == '\\':
			reads(t, raw, text("a\x08")) // \b
		case b < 32, b >= 128:
			refuses(t, raw, api.ErrScrollText, 2)
		default:
			reads(t, raw, text("a"+string(rune(b))+"b"))
		}
		behind := `"a\` + string([]byte{byte(b)}) + `0041"`
		meant := map[byte]string{'"': `"`, '\\': `\`, '/': "/", 'b': "\x08", 'f': "\x0c", 'n': "\x0a", 'r': "\x0d", 't': "\x09"}[byte(b)]
		switch {
		case b == 'u':
			reads(t, behind, text("aA"))
		case b == '"':
			reads(t, behind[:4]+`"`, text(`a"`))
		case meant != "":
			reads(t, behind, text("a"+meant+"0041"))
		default:
			refuses(t, behind, api.ErrScrollText, 3)
		}
		for place := range 4 { // a wrong digit
			digits := []byte("0123")
			digits[place] = byte(b)
			hex := strings.IndexByte("0123456789abcdefABCDEF", byte(b)) >= 0
			if v, e := parses(t, `"\u`+string(digits)+`"`); hex != (e == api.OK) || hex && utf8.RuneCountInString(v.Text) != 1 {
				t.Errorf("\\u%s: %d", digits, e)
			}
			if !hex {
				refuses(t, `"\u`+string(digits)+`"`, api.ErrScrollText, 3+place)
			}
		}
	}
}

// P7.2: each letter that there is, as it is and by its numbers; in a key too.
func TestParseEveryLetter(t *testing.T) {
	for r := rune(0); r <= 0x10ffff; r++ {
		if r >= 0xd800 && r < 0xe000 {
			continue
		}
		want := string(r)
		if r >= 32 && r != '"' && r != '\\' {
			if v, e, _ := scroll.Parse(`"` + want + `"`); e != api.OK || v.Text != want {
				t.Fatalf("%x as it is: %q, %d", r, v.Text, e)
			}
		}
		if r%7 != 0 && r > 0x10040 && r < 0x10ff00 { // not all of the many pairs
			continue
		}
		units := utf16.Encode([]rune{r})
		var written string
		for _, u := range units {
			digits := strconv.FormatInt(0x10000+int64(u), 16)[1:]
			if r%2 == 1 {
				digits = strings.ToUpper(digits)
			}
			written += `\u` + digits
		}
		if v, e, _ := scroll.Parse(`{"` + written + `":0}`); e != api.OK || v.Keys[0] != want {
			t.Fatalf("%s: %q, %d", written, v.Keys, e)
		}
	}
}

// P7.2: pairs of surrogates that are right, and all that are wrong, with what stands behind.
func TestParsePairs(t *testing.T) {
	for _, row := range []struct {
		text  string
		why   api.Errno
		place int
	}{
		{`"\ud800"`, api.ErrScrollText, 1}, {`"\udbff"`, api.ErrScrollText, 1}, {`"\udc00"`, api.ErrScrollText, 1}, {`"\udfff"`, api.ErrScrollText, 1}, {`"\uDFFFx"`, api.ErrScrollText, 1},
		{`"\ud800\x"`, api.ErrScrollText, 1}, {`"\ud800x"`, api.ErrScrollText, 1}, {`"\ud800\u0041"`, api.ErrScrollText, 1}, {`"\ud800\u00x1"`, api.ErrScrollText, 11}, {`"\ud800\uzz"`, api.ErrScrollText, 9},
		{`"\ud800\ud800"`, api.ErrScrollText, 1}, {`"\ud800\udbff\udc00"`, api.ErrScrollText, 1}, {`"\ud800\ue000"`, api.ErrScrollText, 1}, {`"\ud800\n"`, api.ErrScrollText, 1}, {`"\ud800\"`, api.ErrScrollText, 1}, {`"\ud800\\udc00"`, api.ErrScrollText, 1}, {`"\ud800 \udc00"`, api.ErrScrollText, 1}, {`"\ud800/udc00"`, api.ErrScrollText, 1}, {`"\ud800\Udc00"`, api.ErrScrollText, 1},
		{"\"\\ud800\x01", api.ErrScrollText, 1}, {"\"\\ud800\xff", api.ErrScrollText, 1}, {"\"\\ud800\\\x01", api.ErrScrollText, 1}, {"\"\\ud800\\\xff", api.ErrScrollText, 1}, {"\"\\ud800\\u\x01", api.ErrScrollText, 9}, {"\"\\ud800\\u\xff", api.ErrScrollText, 9}, {`"\ud800\u"`, api.ErrScrollText, 9}, {`"\ud800\u000"`, api.ErrScrollText, 12}, {`"\ud800\udc0g`, api.ErrScrollText, 12},
		{`"\ud800`, api.ErrScrollEnd, 7}, {`"\ud800\`, api.ErrScrollEnd, 8}, {`"\ud800\u`, api.ErrScrollEnd, 9}, {`"\ud800\ud`, api.ErrScrollEnd, 10}, {`"\ud800\u004`, api.ErrScrollEnd, 12}, {`"\ud800\u0041`, api.ErrScrollText, 1}, {`"\ud800\udc00`, api.ErrScrollEnd, 13}, {`"\udc00`, api.ErrScrollText, 1}, {`"\udc0`, api.ErrScrollEnd, 6}, {`"\udc0x`, api.ErrScrollText, 6},
		{`"ab\udc00\ud800"`, api.ErrScrollText, 3}, {`"\ud83d\ude00\ude00"`, api.ErrScrollText, 13}, {`"\ud83d\ude00\ud83d"`, api.ErrScrollText, 13}, {`["x","\ud800"]`, api.ErrScrollText, 6}, {`{"\ud800":1}`, api.ErrScrollText, 2},
	} {
		refuses(t, row.text, row.why, row.place)
	}
	for written, want := range map[string]string{
		`\ud800\udc00`: "\U00010000", `\uDBFF\uDFFF`: "\U0010ffff", `\ud83d\uDE00`: "😀", `\ud83d\ude00\ud83d\ude01`: "😀😁", `\ud7ff\ue000`: "\ud7ff\ue000", `\ud800\udfff`: "\U000103ff", `\udbff\udc00`: "\U0010fc00", `x\ud83d\ude00y`: "x😀y",
	} {
		reads(t, `"`+written+`"`, text(want))
	}
	bounds := []int{0, 0x41, 0xd7ff, 0xd800, 0xd801, 0xdabc, 0xdbff, 0xdc00, 0xdc01, 0xdeef, 0xdfff, 0xe000, 0xffff}
	for _, a := range bounds {
		for _, b := range bounds {
			for _, c := range bounds {
				s := `"`
				for _, u := range []int{a, b, c} {
					s += `\u` + strconv.FormatInt(0x10000+int64(u), 16)[1:]
				}
				parses(t, s+`"`)
			}
		}
	}
}

// P7.2: what is no valid UTF-8 is a fault at its first byte, at the text's end too.
func TestParseBrokenLetters(t *testing.T) {
	for _, row := range []struct {
		letter string
		good   bool
	}{
		{"\x7f", true}, {"\x80", false}, {"\xbf", false}, {"\xc0\x80", false}, {"\xc1\xbf", false}, {"\xc2\x80", true}, {"\xc2", false}, {"\xc2\x7f", false}, {"\xc2\xc0", false}, {"\xdf\xbf", true},
		{"\xe0\x9f\xbf", false}, {"\xe0\xa0\x80", true}, {"\xe0\xa0", false}, {"\xed\x9f\xbf", true}, {"\xed\xa0\x80", false}, {"\xed\xbf\xbf", false}, {"\xee\x80\x80", true}, {"\xef\xbf\xbd", true}, {"\xef\xbf\xbf", true},
		{"\xf0\x8f\xbf\xbf", false}, {"\xf0\x90\x80\x80", true}, {"\xf0\x90\x80", false}, {"\xf4\x8f\xbf\xbf", true}, {"\xf4\x90\x80\x80", false}, {"\xf5\x80\x80\x80", false}, {"\xff", false}, {"\xfe", false}, {"\xf8\x88\x80\x80\x80", false},
	} {
		whole := `"ab` + row.letter + `"`
		if row.good {
			reads(t, whole, text("ab"+row.letter))
			reads(t, "{"+whole+":0}", object("ab"+row.letter, number("0")))
			refuses(t, whole[:len(whole)-1], api.ErrScrollEnd, len(whole)-1)
			continue
		}
		refuses(t, whole, api.ErrScrollText, 3)
		refuses(t, whole[:len(whole)-1], api.ErrScrollText, 3)
		refuses(t, "["+whole+"]", api.ErrScrollText, 4)
		refuses(t, "{"+whole+":0}", api.ErrScrollText, 4)
	}
	edges := []byte{0x00, 0x1f, 0x20, 0x22, 0x5c, 0x7f, 0x80, 0x8f, 0x90, 0x9f, 0xa0, 0xbf, 0xc0, 0xff}
	for first := 0x80; first < 256; first++ {
		for _, b := range edges {
			for _, c := range edges {
				for _, d := range edges {
					parses(t, "\""+string([]byte{byte(first), b, c, d})+`"`)
				}
			}
		}
	}
}

// P7.2: every text of up to five bytes out of those that the form is made of.
func TestParseAllShortTexts(t *testing.T) {
	var try func(text string, left int, bytes string)
	try = func(text string, left int, bytes string) {
		parses(t, text)
		for i := 0; left > 0 && i < len(bytes); i++ {
			try(text+bytes[i:i+1], left-1, bytes)
		}
	}
	try("", 5, `[]{},:"1 a\`)
	try("", 5, "-+.eE019 ]")
	try("[", 6, "-.e01,]")
	try(`{"a"`, 5, `:,}"a1 `)
	try("n", 4, "ulL ")
	try("t", 4, "rue,")
	try("f", 5, "alse")
}

// P7.2: texts of parts that are put together at random, and texts that are spoilt, against the second reckoning and against the library's reader.
func TestParseAgainstModel(t *testing.T) {
	rnd := rand.New(rand.NewSource(702))
	parts := []string{"[", "]", "{", "}", ",", ":", `"a"`, `"b"`, `"\u0061"`, `"`, `\`, "null", "false", "true", "1", "-", "0.5", "e5", " ", "\n", `"\ud83d\ude00"`, `\ud800`, "é", "\xc3", "x", `"a":`, `,"b":`, "[1,2]", "{}", `{"a":1,"a":2}`}
	for range 100000 {
		var b strings.Builder
		for range 1 + rnd.Intn(12) {
			b.WriteString(parts[rnd.Intn(len(parts))])
		}
		parses(t, b.String())
	}
	seen := map[api.Errno]int{}
	for range 30000 {
		s := modelPrint(randomValue(rnd, 4), rnd.Intn(2) == 0)
		for range rnd.Intn(3) {
			i := rnd.Intn(len(s) + 1)
			switch part := parts[rnd.Intn(len(parts))]; rnd.Intn(3) {
			case 0:
				s = s[:i] + part + s[i:]
			case 1:
				s = s[:i] + s[min(len(s), i+1+rnd.Intn(3)):]
			case 2:
				s = s[:i] + part + s[min(len(s), i+len(part)):]
			}
		}
		_, e := parses(t, s)
		seen[e]++
		againstLibrary(t, s, e)
	}
	for _, e := range []api.Errno{api.OK, api.ErrScrollEnd, api.ErrScrollByte, api.ErrScrollText, api.ErrScrollMore, api.ErrScrollTwice} {
		if seen[e] < 50 {
			t.Errorf("error %d came %d times", e, seen[e])
		}
	}
}

var longPower = regexp.MustCompile(`[eE][+-]?[0-9]{7}`)

// againstLibrary: what is read is read by the library too, and what is refused for its form is refused there too. (The library takes broken letters, and keys that come twice.)
func againstLibrary(t *testing.T, s string, e api.Errno) {
	t.Helper()
	valid := json.Valid([]byte(s))
	if e == api.OK && !valid {
		t.Errorf("%q is no JSON", s)
	}
	if (e == api.ErrScrollEnd || e == api.ErrScrollByte || e == api.ErrScrollMore) && valid && !longPower.MatchString(s) {
		t.Errorf("%q is JSON, not error %d", s, e)
	}
}
