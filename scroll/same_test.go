package scroll_test

import (
	"math/rand"
	"strings"
	"testing"

	"coffer/api"
	"coffer/scroll"
)

// P7.6: numbers in their one form, members in the rising order of their keys, byte by byte; at every depth, and nothing else is changed.
func TestCanonForms(t *testing.T) {
	for in, want := range map[string]string{
		"null": "null", "false": "false", "true": "true", `"1.0"`: `"1.0"`, "[]": "[]", "{}": "{}",
		"1.0": "1", "-0e5": "0", "12E+2": "1200", "1.50": "1.5", "1e20": "1e20",
		"[3,1.0,2]":                              "[3,1,2]",
		`{"b":1,"a":2}`:                          `{"a":2,"b":1}`,
		`{"b":1,"":2,"B":3,"aa":4,"a":5,"ab":6}`: `{"":2,"B":3,"a":5,"aa":4,"ab":6,"b":1}`,
		"{\"\uffff\":1,\"\U00010000\":2,\"é\":3,\"\\u007f\":4,\"\\u0000\":5}": "{\"\\u0000\":5,\"\u007f\":4,\"é\":3,\"\uffff\":1,\"\U00010000\":2}",
		`[{"b":{"z":[{"y":1.0,"x":2}],"a":0.0}}]`:                             `[{"b":{"a":0,"z":[{"x":2,"y":1}]}}]`,
		`{"10":1,"9":2,"1":3,"09":4}`:                                         `{"09":4,"1":3,"10":1,"9":2}`,
	} {
		got, e := scroll.Canon(value(t, in))
		same(t, "Canon("+in+")", got, e, value(t, want), api.OK)
	}
}

// P7.6: the zero value and Check's error; what may not be is the same as nothing, not even as itself.
func TestCanonWhatMayNotBe(t *testing.T) {
	for name, row := range faults() {
		got, e := scroll.Canon(row.v)
		same(t, "Canon of "+name, got, e, api.Json{}, row.why)
		if scroll.Same(row.v, row.v) || scroll.Same(row.v, null) || scroll.Same(null, row.v) {
			t.Errorf("Same of %s", name)
		}
	}
	if scroll.Same(api.Json{}, api.Json{}) {
		t.Error("Same of two zero values")
	}
}

// P7.6: what is the same, and what differs by one thing alone.
func TestSame(t *testing.T) {
	classes := [][]string{ // within one the same, of two different
		{"null"}, {"false"}, {"true"}, {`""`}, {"[]", "[ ]"}, {"{}"}, {"0", "-0", "0e9", "0.00"}, {"1", "1.0", "10e-1", "0.1E1"}, {"-1", "-1.0"}, {`"1"`, `"\u0031"`}, {`"1.0"`}, {"1e20", "100000000000000000000"}, {"1e-21", "0.000000000000000000001"},
		{"[1]", "[1.0]"}, {"[[1]]"}, {"[1,2]", "[10e-1,0.2e1]"}, {"[2,1]"}, {"[1,2,2]"}, {"[null]"},
		{`{"a":1,"b":2}`, `{"b":2,"a":1}`, `{"b":2.0,"a":1e0}`}, {`{"a":2,"b":1}`, `{"b":1,"a":2}`}, {`{"a":1}`}, {`{"b":1}`}, {`{"A":1}`}, {`{"a":"1"}`}, {`{"a":null}`}, {`{"a":1,"b":2,"c":3}`, `{"c":3,"a":1,"b":2}`, `{"b":2,"c":3,"a":1}`},
		{`[{"a":{"x":1,"y":[]}}]`, `[{"a":{"y":[],"x":1}}]`}, {`[{"a":{"x":1,"y":{}}}]`}, {`{"":[]}`},
	}
	for i, one := range classes {
		for j, other := range classes {
			for _, a := range one {
				for _, b := range other {
					if got := scroll.Same(value(t, a), value(t, b)); got != (i == j) {
						t.Errorf("Same(%s, %s): %v", a, b, got)
					}
				}
			}
		}
	}
	if !scroll.Same(api.Json{Kind: api.JList, Items: []api.Json{}, Keys: []string{}}, list()) {
		t.Error("an empty list and nil differ")
	}
	full := listOf(65535)
	if !scroll.Same(full, full) || scroll.Same(full, listOf(65534)) {
		t.Error("Same of great lists")
	}
	if long := text(strings.Repeat("x", api.MaxScroll+9)); !scroll.Same(long, long) { // too long to be printed, but it may be
		t.Error("Same of long texts")
	}
}

// otherwise gives a value that is the same: numbers of another form, members in another order.
func otherwise(rnd *rand.Rand, v api.Json) api.Json {
	forms := map[string][]string{"0": {"0", "-0.0", "0E5"}, "1": {"1", "1.0", "10e-1"}, "100": {"100", "1e2", "0.1e3"}, "0.5": {"0.5", "5e-1", "0.50"}, "1e20": {"1e20", "10e19"}, "-1": {"-1", "-0.1e1"}}
	out := api.Json{Kind: v.Kind, Text: v.Text}
	if v.Kind == api.JNumber {
		form, _ := modelNormal(v.Text)
		if more := forms[form]; more != nil {
			out.Text = more[rnd.Intn(len(more))]
		}
		return out
	}
	order := make([]int, len(v.Items))
	for i := range order {
		order[i] = i
	}
	if v.Kind == api.JObject {
		order = rnd.Perm(len(v.Items))
	}
	for _, i := range order {
		out.Items = append(out.Items, otherwise(rnd, v.Items[i]))
		if v.Kind == api.JObject {
			out.Keys = append(out.Keys, v.Keys[i])
		}
	}
	return out
}

// P7.6, P7.15: Canon against the second reckoning; Canon of it is it; what is written otherwise is the same, what differs in Canon is not.
func TestCanonAgainstModel(t *testing.T) {
	rnd := rand.New(rand.NewSource(708))
	last := null
	for range 10000 {
		v := randomValue(rnd, 4)
		want := modelCanon(v)
		c, e := scroll.Canon(v)
		same(t, "Canon", c, e, want, api.OK)
		again, e := scroll.Canon(c)
		same(t, "Canon of Canon", again, e, c, api.OK)
		other := otherwise(rnd, v)
		if !scroll.Same(v, other) || !scroll.Same(other, v) || !scroll.Same(v, c) {
			t.Errorf("%s and %s differ", short(v), short(other))
		}
		if got := scroll.Same(v, last); got != equals(want, modelCanon(last)) {
			t.Errorf("Same(%s, %s): %v", short(v), short(last), got)
		}
		last = v
	}
}
