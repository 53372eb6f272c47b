package probe_test

import (
	"fmt"
	"math"
	"math/rand"
	"reflect"
	"slices"
	"strings"
	"testing"

	"coffer/api"
	"coffer/probe"
)

// compares holds Compare, both ways, against the second reckoning.
func compares(t *testing.T, name string, a, b api.Meta) []string {
	t.Helper()
	got := probe.Compare(a, b)
	if want := modelCompare(a, b); !slices.Equal(got, want) {
		t.Errorf("%s: %q, not %q", name, got, want)
	}
	back := probe.Compare(b, a)
	if want := modelCompare(b, a); !slices.Equal(back, want) {
		t.Errorf("%s, the other way: %q, not %q", name, back, want)
	}
	changed := strings.NewReplacer("+ ", "- ", "- ", "+ ")
	for i := range back {
		back[i] = changed.Replace(back[i])
	}
	if slices.Sort(back); !slices.Equal(back, slices.Sorted(slices.Values(got))) {
		t.Errorf("%s: %q, changed about %q", name, got, back)
	}
	for _, m := range []api.Meta{a, b} {
		if got := probe.Compare(m, tidy(m)); len(got) != 0 {
			t.Errorf("%s, with itself: %q", name, got)
		}
	}
	return got
}

// fields gives each number, text and bool of a thing, with a name.
func fields(name string, v reflect.Value, tell func(name string, v reflect.Value)) {
	if v.Kind() != reflect.Struct {
		tell(name, v)
		return
	}
	for i := range v.NumField() {
		fields(name+"."+v.Type().Field(i).Name, v.Field(i), tell)
	}
}

// another gives a field another value.
func another(v reflect.Value) {
	switch v.Kind() {
	case reflect.Bool:
		v.SetBool(!v.Bool())
	case reflect.Int, reflect.Int64:
		v.SetInt(v.Int() + 1)
	case reflect.Uint64:
		v.SetUint(v.Uint() + 1)
	case reflect.String:
		v.SetString(v.String() + "x")
	case reflect.Slice:
		v.Set(reflect.Append(v, reflect.Zero(v.Type().Elem())))
	}
}

// P15.4: each field alone makes a difference, and is told by its line alone.
func TestCompareFields(t *testing.T) {
	base := turning(512, 9, true, 2, 3, 4)
	base.Rotation.Active, base.Rotation.Count, base.Rotation.Sum = true, 3, "sum"
	names := map[string]string{"HeadSalt": "salt", "UUID": "uuid"}
	n := 0
	for i := range reflect.TypeFor[api.Meta]().NumField() {
		name := reflect.TypeFor[api.Meta]().Field(i).Name
		v := reflect.ValueOf(&base).Elem().Field(i)
		if name == "Slots" || name == "Epochs" || name == "Tokens" {
			continue
		}
		want := names[name]
		if want == "" {
			want = strings.ToLower(name)
		}
		if name == "Segments" {
			v = v.Index(1)
		}
		fields(name, v, func(name string, v reflect.Value) {
			old := tidy(base)
			another(v)
			if got := compares(t, name, old, tidy(base)); !slices.Equal(got, []string{want}) {
				t.Errorf("%s: %q", name, got)
			}
			n++
		})
	}
	expect(t, "fields", n, 26)
}

// P15.4: so does each field of a keyslot, an epoch and a token.
func TestCompareItems(t *testing.T) {
	base := turning(512, 9, true, 2, 3, 4)
	n := 0
	for _, list := range []string{"Slots", "Epochs", "Tokens"} {
		kind := strings.ToLower(strings.TrimSuffix(list, "s"))
		at := reflect.ValueOf(&base).Elem().FieldByName(list)
		for i := range at.Len() {
			fields(list, at.Index(i), func(name string, v reflect.Value) {
				old := tidy(base)
				another(v)
				now := reflect.ValueOf(base).FieldByName(list).Index(i).FieldByName("Number").Interface()
				was := reflect.ValueOf(old).FieldByName(list).Index(i).FieldByName("Number").Interface()
				want := []string{fmt.Sprint("- ", kind, " ", was), fmt.Sprint("+ ", kind, " ", now)}
				if got := compares(t, name, old, tidy(base)); !slices.Equal(got, want) {
					t.Errorf("%s: %q", name, got)
				}
				n++
			})
		}
	}
	expect(t, "fields", n, 3*9+2*5+2*4)
}

// P15.4: all of it at once, in the chapter's order.
func TestCompareAll(t *testing.T) {
	a := api.Meta{
		Slots:  []api.Slot{{Number: 7}, {Number: -3, Priority: 1}, {Number: 7}, {Number: 2}},
		Epochs: []api.Epoch{{Number: math.MaxUint64}, {Number: 1}},
		Tokens: []api.Token{{Number: math.MinInt}, {Number: 5, Slots: []int{1, 2}}, {Number: 5, Slots: []int{12}}},
	}
	b := api.Meta{
		Label: "l", Subsystem: "s", UUID: "u", HeadSalt: "h", Shape: api.Shape{Unit: 1}, Digest: api.KeyDigest{Salt: "s"}, Segments: []api.Segment{{}}, Rotation: api.Rotation{Mode: 1},
		Slots:  []api.Slot{{Number: 2}, {Number: -3}, {Number: 0}},
		Epochs: []api.Epoch{{Number: 1, Check: "c"}},
		Tokens: []api.Token{{Number: 5, Slots: []int{2, 1}}, {Number: 5, Slots: []int{1, 2}}, {Number: math.MaxInt}},
	}
	want := []string{
		"label", "subsystem", "uuid", "salt", "shape", "digest", "segments", "rotation",
		"- slot 7", "- slot -3", "- slot 7", "+ slot -3", "+ slot 0",
		"- epoch 18446744073709551615", "- epoch 1", "+ epoch 1",
		"- token -9223372036854775808", "- token 5", "+ token 5", "+ token 9223372036854775807",
	}
	if got := compares(t, "all", a, b); !slices.Equal(got, want) {
		t.Errorf("%q", got)
	}
}

// P15.4: the order of keyslots, epochs and tokens makes no difference, how often one stands there neither; that of segments does. No list and an empty one are the same.
func TestCompareOrder(t *testing.T) {
	a := turning(512, 9, true, 2, 3, 4)
	a.Tokens[1].Slots = nil
	b := tidy(a)
	slices.Reverse(b.Slots)
	slices.Reverse(b.Epochs)
	slices.Reverse(b.Tokens)
	b.Slots = append(b.Slots, b.Slots[0], b.Slots[1])
	b.Tokens[0].Slots = []int{}
	if got := compares(t, "order", a, b); len(got) != 0 {
		t.Errorf("%q", got)
	}
	slices.Reverse(b.Segments)
	if got := compares(t, "segments", a, b); !slices.Equal(got, []string{"segments"}) {
		t.Errorf("%q", got)
	}
	a, b = api.Meta{}, api.Meta{Slots: []api.Slot{}, Epochs: []api.Epoch{}, Segments: []api.Segment{}, Tokens: []api.Token{}}
	if got := compares(t, "empty", a, b); len(got) != 0 {
		t.Errorf("%q", got)
	}
}

// little gives metadata out of so few values that many are the same.
func little(r *rand.Rand) api.Meta {
	text := func() string { return []string{"", "", "a", "1,2"}[r.Intn(4)] }
	m := api.Meta{Label: text(), Subsystem: text(), UUID: text(), HeadSalt: text()}
	m.Shape.Keys, m.Digest.Turns, m.Rotation.Done = r.Intn(2), r.Intn(2), uint64(r.Intn(2))
	for range r.Intn(4) {
		m.Slots = append(m.Slots, api.Slot{Number: r.Intn(3) - 1, Cipher: text(), Area: api.Area{Size: int64(r.Intn(2))}})
	}
	for range r.Intn(3) {
		m.Epochs = append(m.Epochs, api.Epoch{Number: uint64(r.Intn(2)), Sealed: text()})
	}
	for range r.Intn(3) {
		m.Segments = append(m.Segments, api.Segment{Start: uint64(r.Intn(2))})
	}
	for range r.Intn(4) {
		m.Tokens = append(m.Tokens, api.Token{Number: r.Intn(2), Kind: text(), Note: text(), Slots: [][]int{nil, {}, {1}, {1, 2}, {12}, {-1, 2}}[r.Intn(6)]})
	}
	return m
}

// P15.4, P15.11: any two metadata.
func TestCompareAny(t *testing.T) {
	r := rand.New(rand.NewSource(4))
	for i := range 20000 {
		compares(t, fmt.Sprint(i), little(r), little(r))
		if t.Failed() {
			return
		}
	}
}

// P15.4: "of any metadata": it ends soon of long lists too, whatever their numbers.
func TestCompareLong(t *testing.T) {
	const n = 200000
	var a, b api.Meta
	for i := range n {
		a.Slots = append(a.Slots, api.Slot{Number: 1, Turns: i})
		b.Slots = append(b.Slots, api.Slot{Number: 1, Turns: i + 1})
		a.Tokens = append(a.Tokens, api.Token{Number: 2, Slots: []int{i}})
		b.Tokens = append(b.Tokens, api.Token{Number: 2, Slots: []int{n - i}})
	}
	want := []string{"- slot 1", "+ slot 1", "- token 2", "+ token 2"}
	if got := probe.Compare(a, b); !slices.Equal(got, want) {
		t.Errorf("%d lines", len(got))
	}
}

// P15.3: any keyslots.
func TestOrder(t *testing.T) {
	r := rand.New(rand.NewSource(3))
	for range 2000 {
		var m api.Meta
		for range r.Intn(9) {
			m.Slots = append(m.Slots, api.Slot{Number: r.Intn(9) - 2, Priority: r.Intn(5) - 1})
		}
		if got, want := probe.Order(m), modelOrder(m); !slices.Equal(got, want) {
			t.Fatalf("%v: %v, not %v", m.Slots, got, want)
		}
	}
	if got := probe.Order(api.Meta{}); len(got) != 0 {
		t.Errorf("no keyslots: %v", got)
	}
	m := api.Meta{Slots: []api.Slot{{Number: math.MaxInt, Priority: 1}, {Number: 9, Priority: math.MaxInt}, {Number: math.MinInt, Priority: 1}, {Number: 4, Priority: 2}, {Number: 4, Priority: 1}}}
	if got := probe.Order(m); !slices.Equal(got, []int{4, math.MinInt, 4, math.MaxInt}) {
		t.Errorf("%v", got)
	}
}

// P15.2: each byte, and texts of several.
func TestQuote(t *testing.T) {
	expect(t, "nothing", probe.Quote(""), `""`)
	all := make([]byte, 256)
	for c := range 256 {
		all[c] = byte(c)
		text := string([]byte{byte(c)})
		want := `"` + text + `"`
		if c < 32 || c > 126 || c == 34 || c == 92 {
			want = fmt.Sprintf(`"\x%02x"`, c)
		}
		expect(t, fmt.Sprint("byte ", c), probe.Quote(text), want)
	}
	expect(t, "all", probe.Quote(string(all)), modelQuote(string(all)))
	expect(t, "UTF-8", probe.Quote("é~ \n"), `"\xc3\xa9~ \x0a"`)
	long := strings.Repeat("\\a", 1<<20)
	expect(t, "long", probe.Quote(long) == `"`+strings.Repeat(`\x5ca`, 1<<20)+`"`, true)
}
