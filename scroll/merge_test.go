package scroll_test

import (
	"math/rand"
	"strconv"
	"testing"

	"coffer/api"
	"coffer/scroll"
)

func merge(t *testing.T, v, patch api.Json) (api.Json, api.Errno) {
	t.Helper()
	want, why := modelMerge(v, patch)
	got, e := scroll.Merge(v, patch)
	same(t, "Merge("+short(v)+", "+short(patch)+")", got, e, want, why)
	return got, e
}

// P7.11: the examples of RFC 7386 (its appendix A).
func TestMergePublished(t *testing.T) {
	for _, row := range [][3]string{
		{`{"a":"b"}`, `{"a":"c"}`, `{"a":"c"}`},
		{`{"a":"b"}`, `{"b":"c"}`, `{"a":"b","b":"c"}`},
		{`{"a":"b"}`, `{"a":null}`, `{}`},
		{`{"a":"b","b":"c"}`, `{"a":null}`, `{"b":"c"}`},
		{`{"a":["b"]}`, `{"a":"c"}`, `{"a":"c"}`},
		{`{"a":"c"}`, `{"a":["b"]}`, `{"a":["b"]}`},
		{`{"a":{"b":"c"}}`, `{"a":{"b":"d","c":null}}`, `{"a":{"b":"d"}}`},
		{`{"a":[{"b":"c"}]}`, `{"a":[1]}`, `{"a":[1]}`},
		{`["a","b"]`, `["c","d"]`, `["c","d"]`},
		{`{"a":"b"}`, `["c"]`, `["c"]`},
		{`{"a":"foo"}`, `null`, `null`},
		{`{"a":"foo"}`, `"bar"`, `"bar"`},
		{`{"e":null}`, `{"a":1}`, `{"e":null,"a":1}`},
		{`[1,2]`, `{"a":"b","c":null}`, `{"a":"b"}`},
		{`{}`, `{"a":{"bb":{"ccc":null}}}`, `{"a":{"bb":{}}}`},
	} {
		got, e := merge(t, value(t, row[0]), value(t, row[1]))
		same(t, row[0]+" and "+row[1], got, e, value(t, row[2]), api.OK)
	}
}

// P7.11: where a member stays, where one is added, what nulls do in lists, in lists' objects, and in what is new.
func TestMerge(t *testing.T) {
	for _, row := range [][3]string{
		{`1`, `{}`, `{}`}, {`null`, `{"a":1}`, `{"a":1}`}, {`"x"`, `{"a":null}`, `{}`}, {`{}`, `{}`, `{}`}, {`{"a":1}`, `{}`, `{"a":1}`}, {`{"a":1}`, `2`, `2`}, {`{"a":1}`, `[]`, `[]`}, {`{"a":1}`, `false`, `false`},
		{`{"a":1,"b":2,"c":3}`, `{"c":4,"a":5}`, `{"a":5,"b":2,"c":4}`},
		{`{"a":1,"b":2,"c":3}`, `{"z":6,"b":null,"y":7}`, `{"a":1,"c":3,"z":6,"y":7}`},
		{`{"b":1}`, `{"d":1,"c":2,"a":3}`, `{"b":1,"d":1,"c":2,"a":3}`},
		{`{"a":1}`, `{"x":null,"a":2,"y":null}`, `{"a":2}`},
		{`{"a":{"b":1},"c":{"b":1}}`, `{"c":{"b":2}}`, `{"a":{"b":1},"c":{"b":2}}`},
		{`{"a":1}`, `{"a":{"b":{"c":null,"d":1}}}`, `{"a":{"b":{"d":1}}}`},
		{`{"a":[1]}`, `{"a":{"0":2}}`, `{"a":{"0":2}}`},
		{`{"a":{"b":1}}`, `{"a":[null,{"b":null}]}`, `{"a":[null,{"b":null}]}`},
		{`{"a":{"b":1}}`, `{"a":[]}`, `{"a":[]}`},
		{`{"a":null,"b":{"c":null}}`, `{"b":{"d":1}}`, `{"a":null,"b":{"c":null,"d":1}}`},
		{`{"a":null}`, `{"a":{}}`, `{"a":{}}`},
		{`[{"a":null}]`, `{"b":[{"a":null}]}`, `{"b":[{"a":null}]}`},
		{`{"":1,"~":2,"/":3}`, `{"/":null,"":{}}`, `{"":{},"~":2}`},
	} {
		got, e := merge(t, value(t, row[0]), value(t, row[1]))
		same(t, row[0]+" and "+row[1], got, e, value(t, row[2]), api.OK)
	}
}

// P7.11: Check's error of the value ahead of the patch's; then that of the whole.
func TestMergeWhatMayNotBe(t *testing.T) {
	for name, row := range faults() {
		got, e := merge(t, row.v, object("a", null))
		same(t, "Merge of "+name, got, e, api.Json{}, row.why)
		got, e = merge(t, object("a", null), row.v)
		same(t, "Merge with "+name, got, e, api.Json{}, row.why)
		got, e = merge(t, row.v, number("x"))
		same(t, "Merge of two that may not be", got, e, api.Json{}, row.why)
		got, e = merge(t, number("x"), row.v)
		same(t, "Merge of two that may not be", got, e, api.Json{}, api.ErrScrollNumber)
	}
	members := func(from, n int) api.Json {
		v := api.Json{Kind: api.JObject}
		for i := range n {
			v.Keys, v.Items = append(v.Keys, "k"+strconv.Itoa(from+i)), append(v.Items, number("1"))
		}
		return v
	}
	if got, e := scroll.Merge(members(0, 40000), members(40000, 25535)); e != api.OK || len(got.Items) != 65535 {
		t.Errorf("65536 values: %d", e)
	}
	got, e := scroll.Merge(members(0, 40000), members(40000, 25536))
	same(t, "one too many", got, e, api.Json{}, api.ErrScrollMany)
	if got, e := scroll.Merge(members(0, 65535), members(1, 65534)); e != api.OK || len(got.Items) != 65535 {
		t.Errorf("all in their places: %d", e)
	}
	got, e = scroll.Merge(object("a", members(0, 40000)), object("a", members(40000, 25535)))
	same(t, "one too many within", got, e, api.Json{}, api.ErrScrollMany)
	gone := members(0, 65535)
	for i := range gone.Items {
		gone.Items[i] = null
	}
	got, e = scroll.Merge(members(0, 65535), gone)
	same(t, "all gone", got, e, object(), api.OK)
	if got, e := merge(t, nest(list(), 31), nest(object("a", null), 30)); e != api.OK || got.Kind != api.JList {
		t.Errorf("deep lists: %d", e)
	}
	deep := func(n int, inner api.Json) api.Json {
		for range n {
			inner = object("a", inner)
		}
		return inner
	}
	got, e = merge(t, deep(31, object("b", null)), deep(31, object("c", number("1"))))
	same(t, "as deep as may be", got, e, deep(31, object("b", null, "c", number("1"))), api.OK)
}

// P7.11, P7.15: random values and patches against the chapter's steps, one by one; twice is as once.
func TestMergeAgainstModel(t *testing.T) {
	rnd := rand.New(rand.NewSource(710))
	for range 20000 {
		v, patch := randomValue(rnd, 4), randomValue(rnd, 4)
		if rnd.Intn(3) > 0 { // a patch that is like the value
			patch = likePatch(rnd, v)
		}
		once, e := merge(t, v, patch)
		if e != api.OK {
			t.Fatal(e)
		}
		twice, e := merge(t, once, patch)
		same(t, "Merge twice", twice, e, once, api.OK)
	}
}

// likePatch gives an object with some of a value's keys.
func likePatch(rnd *rand.Rand, v api.Json) api.Json {
	patch := api.Json{Kind: api.JObject}
	for _, i := range rnd.Perm(len(v.Keys)) {
		x := randomValue(rnd, 2)
		switch rnd.Intn(4) {
		case 0:
			continue
		case 1:
			x = null
		case 2:
			x = likePatch(rnd, v.Items[i])
		}
		patch.Keys, patch.Items = append(patch.Keys, v.Keys[i]), append(patch.Items, x)
	}
	if rnd.Intn(2) == 0 {
		patch.Keys, patch.Items = append(patch.Keys, "new"), append(patch.Items, randomValue(rnd, 2))
	}
	return patch
}
