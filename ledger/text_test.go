package ledger_test

import (
	"fmt"
	"math/rand"
	"slices"
	"strings"
	"testing"

	"coffer/api"
	"coffer/ledger"
	"coffer/scroll"
)

const (
	salt1 = "YWFhYWFhYWFhYWFhYWFhYWFhYWFhYWFhYWFhYWFhYWE=" // 32 times a
	salt2 = "YmJiYmJiYmJiYmJiYmJiYmJiYmJiYmJiYmJiYmJiYmI=" // b
	key24 = "Y2NjY2NjY2NjY2NjY2NjY2NjY2NjY2Nj"             // 24 times c
)

// small gives the metadata whose texts are written out below.
func small() api.Meta {
	a, b, c := strings.Repeat("a", 32), strings.Repeat("b", 32), strings.Repeat("c", 24)
	return api.Meta{
		Shape:    api.Shape{Unit: 1024, Count: 100, Head: 16384, Keys: 12288},
		Digest:   api.KeyDigest{Turns: 9, Salt: a, Digest: b},
		Slots:    []api.Slot{{Number: 2, Priority: 1, Hash: 512, Turns: 8, Salt: a, Cipher: "aes192-ecb", Stripes: 3, Area: api.Area{Offset: 32768, Size: 4096}}},
		Epochs:   []api.Epoch{{Number: 4, Cipher: "aes128-ecb", Nonce: b, Sealed: c, Check: a}},
		Segments: []api.Segment{{Count: 56, Epoch: 4}},
	}
}

const (
	smallHead = `{"config":{"unit":1024,"count":100,"head":16384,"keys":12288},` +
		`"digest":{"turns":9,"salt":"` + salt1 + `","value":"` + salt2 + `"},` +
		`"keyslots":{"2":{"priority":1,"hash":"sha512","turns":8,"salt":"` + salt1 + `","cipher":"aes192-ecb","stripes":3,"offset":32768,"size":4096}},` +
		`"epochs":{"4":{"cipher":"aes128-ecb","nonce":"` + salt2 + `","sealed":"` + key24 + `","check":"` + salt1 + `"}`
	smallTurn = smallHead + `,"5":{"cipher":"null","nonce":"` + salt1 + `","sealed":"","check":"` + salt2 + `"}},`
)

// smallTurning gives them with a rotation.
func smallTurning(back bool, mode int, done uint64) api.Meta {
	m := small()
	m.Epochs = append(m.Epochs, api.Epoch{Number: 5, Cipher: "null", Nonce: m.Digest.Salt, Check: m.Digest.Digest})
	m.Rotation = api.Rotation{On: true, From: 4, To: 5, Back: back, Mode: mode, Hot: 8, Done: done, Area: api.Area{Offset: 36864, Size: 8192}}
	m.Segments = ledger.Segments(m)
	return m
}

// P9.5, P9.6: texts written out by hand: no rotation, and one forth and back, active and not; tokens.
func TestTexts(t *testing.T) {
	token := small()
	token.Tokens = []api.Token{{Number: 0, Kind: "k\\", Slots: []int{2}, Note: ""}, {Number: 31, Kind: "é", Note: "a\tb\x7f"}}
	active := smallTurning(true, 2, 50)
	active.Rotation.Active, active.Rotation.Count, active.Rotation.Sum = true, 6, active.Digest.Salt
	for i, v := range []struct {
		m    api.Meta
		want string
	}{
		{small(), smallHead + `},"segments":[{"start":0,"count":56,"epoch":4}],"rotation":null,"tokens":{}}`},
		{token, smallHead + `},"segments":[{"start":0,"count":56,"epoch":4}],"rotation":null,"tokens":{"0":{"kind":"k\\","slots":[2],"note":""},"31":{"kind":"é","slots":[],"note":"a\tb` + "\x7f" + `"}}}`},
		{smallTurning(false, 1, 16), smallTurn + `"segments":[{"start":0,"count":16,"epoch":5},{"start":16,"count":40,"epoch":4}],"rotation":{"from":4,"to":5,"back":false,"mode":"journal","hot":8,"done":16,"offset":36864,"size":8192,"step":null},"tokens":{}}`},
		{smallTurning(true, 2, 16), smallTurn + `"segments":[{"start":0,"count":40,"epoch":4},{"start":40,"count":16,"epoch":5}],"rotation":{"from":4,"to":5,"back":true,"mode":"digests","hot":8,"done":16,"offset":36864,"size":8192,"step":null},"tokens":{}}`},
		{active, smallTurn + `"segments":[{"start":0,"count":6,"epoch":4},{"start":6,"count":50,"epoch":5}],"rotation":{"from":4,"to":5,"back":true,"mode":"digests","hot":8,"done":50,"offset":36864,"size":8192,"step":{"count":6,"sum":"` + salt1 + `"}},"tokens":{}}`},
	} {
		if got, e := ledger.Print(v.m); got != v.want || e != api.OK {
			t.Errorf("text %d: error %d, %s\nnot %s", i, e, got, v.want)
		}
		if m, e, at := ledger.Parse(v.want); e != api.OK || at != 0 || !same(m, v.m) {
			t.Errorf("text %d: error %d at %d, %v, not %v", i, e, at, m, v.m)
		}
	}
}

// P9.7: what is printed is read as it was, and printed as it was.
func TestThereAndBack(t *testing.T) {
	all := append(those(), fullest(), small(), smallTurning(true, 1, 0))
	for i, m := range all {
		s := printed(t, m)
		got, e, at := ledger.Parse(s)
		if e != api.OK || at != 0 || !same(got, m) {
			t.Errorf("metadata %d: error %d at %d, %v", i, e, at, got)
		}
		if again := printed(t, got); again != s {
			t.Errorf("metadata %d: printed otherwise", i)
		}
		checkAs(t, fmt.Sprint("metadata ", i), m)
	}
}

// P9.5: layer 8's fields are not looked at, and not in the text.
func TestHeadFields(t *testing.T) {
	m := still()
	want := printed(t, m)
	m.Label, m.Subsystem, m.UUID, m.HeadSalt = "l", "\xff\x00", strings.Repeat("u", 99), "s"
	if got := printed(t, m); got != want {
		t.Errorf("the text has layer 8's fields: %s", got)
	}
	got, e, _ := ledger.Parse(want)
	if e != api.OK || got.Label != "" || got.Subsystem != "" || got.UUID != "" || got.HeadSalt != "" {
		t.Errorf("Parse tells layer 8's fields: error %d, %v", e, got)
	}
}

// tree gives a text's value, as scroll reads it.
func tree(t *testing.T, s string) api.Json {
	t.Helper()
	v, e, at := scroll.Parse(s)
	if e != api.OK {
		t.Fatalf("no text: error %d at %d", e, at)
	}
	return v
}

// textOf gives a value's text.
func textOf(t *testing.T, v api.Json) string {
	t.Helper()
	s, e := scroll.Print(v)
	if e != api.OK {
		t.Fatalf("no value: error %d", e)
	}
	return s
}

// byNumbers tells whether a path leads to an object whose keys are numbers.
func byNumbers(path string) bool {
	return path == "/keyslots" || path == "/epochs" || path == "/tokens"
}

// P9.6, P9.9: a member that is left out, that is added, that has another key.
func TestMembers(t *testing.T) {
	for _, m := range []api.Meta{still(), turning(true, 1, 40), stepping(false, 2, 40)} {
		s := printed(t, m)
		v := tree(t, s)
		for path, x := range scroll.Walk(v) {
			if x.Kind != api.JObject {
				continue
			}
			for i, key := range x.Keys {
				less := api.Json{Kind: api.JObject, Keys: without(x.Keys, i), Items: without(x.Items, i)}
				put := setAt(t, v, path, less)
				if e := parseAs(t, "without "+path+"/"+key, put); e == api.OK && path != "/tokens" || e != api.ErrLedgerText && !byNumbers(path) {
					t.Errorf("without %s/%s: error %d", path, key, e)
				}
				for _, other := range []string{key + " ", strings.ToUpper(key), "", "0" + key, "9" + key, "-" + key} {
					if !slices.Contains(x.Keys, other) {
						named := api.Json{Kind: api.JObject, Keys: slices.Clone(x.Keys), Items: x.Items}
						named.Keys[i] = other
						parseAs(t, path+"/"+key+" as "+other, setAt(t, v, path, named))
					}
				}
			}
			for _, key := range []string{"x", "", "unit", "step"} {
				if slices.Contains(x.Keys, key) {
					continue
				}
				more := api.Json{Kind: api.JObject, Keys: append([]string{key}, x.Keys...), Items: append([]api.Json{{Kind: api.JNull}}, x.Items...)}
				if e := parseAs(t, "with "+path+"/"+key, setAt(t, v, path, more)); e != api.ErrLedgerText {
					t.Errorf("with %s/%s: error %d", path, key, e)
				}
			}
		}
	}
}

func without[T any](list []T, i int) []T { return append(slices.Clone(list[:i]), list[i+1:]...) }

// setAt gives the text of v with x where a path leads to.
func setAt(t *testing.T, v api.Json, path string, x api.Json) string {
	t.Helper()
	w, e := scroll.Set(v, path, x)
	if e != api.OK {
		t.Fatalf("Set at %q: error %d", path, e)
	}
	return textOf(t, w)
}

// P9.6: a member twice is chapter 7's fault, at the key that comes again; so are the text's other faults.
func TestFaultsOfTheForm(t *testing.T) {
	s := printed(t, still())
	for _, key := range []string{`"config"`, `"unit"`, `"priority"`, `"start"`, `"kind"`} {
		at := strings.Index(s, key)
		in := s[:at] + key + ":0," + s[at:]
		m, e, place := ledger.Parse(in)
		if e != api.ErrScrollTwice || place != at+len(key)+3 || !same(m, api.Meta{}) {
			t.Errorf("%s twice: error %d at %d", key, e, place)
		}
	}
	for n := range len(s) {
		m, e, at := ledger.Parse(s[:n])
		if e != api.ErrScrollEnd && e != api.ErrScrollText || e == api.ErrScrollEnd && at != n || !same(m, api.Meta{}) {
			t.Errorf("the first %d bytes: error %d at %d", n, e, at)
		}
	}
	for in, want := range map[string][2]int{"": {70, 0}, "[1,]": {71, 3}, "{}": {98, 0}, "null": {98, 0}, "[]": {98, 0}, `"{}"`: {98, 0}, "7": {98, 0}, "true": {98, 0},
		s + "x": {76, len(s)}, " \n" + s + "\t\r": {0, 0}, s + s: {76, len(s)}, s[:5] + "\x00" + s[5:]: {72, 5}, strings.Repeat("[", 33): {74, 32},
		strings.Repeat(" ", 1<<22+1): {4, 1 << 22}, s + strings.Repeat(" ", 1<<22-len(s)): {0, 0}, s + strings.Repeat(" ", 1<<22-len(s)+1): {4, 1 << 22},
		"[" + strings.Repeat("0,", 65535) + "0]": {78, 131071}, "[" + strings.Repeat("0,", 65534) + "0]": {98, 0}} {
		m, e, at := ledger.Parse(in)
		if int(e) != want[0] || at != want[1] || e != api.OK && !same(m, api.Meta{}) {
			t.Errorf("%.20q: error %d at %d, not %v", in, e, at, want)
		}
		parseAs(t, "a fault of the form", in)
	}
}

// P9.6: each value in the text of another kind, or of another worth, against the model.
func TestEachValue(t *testing.T) {
	t.Parallel()
	of := func(s string) api.Json { return tree(t, s) }
	others := []api.Json{of("null"), of("false"), of("true"), of("0"), of("1"), of("31"), of("32"), of("512"), of("4096"), of("4611686018427387904"), of("4611686018427387905"), of("9223372036854775808"), of("18446744073709551616"), of("1e18"), of("1e19"), of("1e99999"), of("-0"), of("-1"), of("1.5"), of("5e-1"), of("0e7"),
		of(`""`), of(`"0"`), of(`"512"`), of(`"sha256"`), of(`"sha512"`), of(`"sha384"`), of(`"SHA256"`), of(`"journal"`), of(`"digests"`), of(`"Zg=="`), of(`"Zg="`), of(`"Zh=="`), of(`"` + salt1 + `"`), of(`"` + salt1 + ` "`), of(`"` + salt1[:43] + `"`), of(`"` + salt1[:20] + `\n` + salt1[20:] + `"`), of(`"YWFhYWFhYWFhYWFhYWFhYWFhYWFhYWFhYWFhYWFhYWF="`), of(`"null"`), of(`"aes128-ecb"`),
		of("[]"), of("[0]"), of("[0,3]"), of("[3,0]"), of("[1]"), of(`["0"]`), of("[0.0,3e0]"), of("{}"), of(`{"0":{}}`), of(`{"count":50,"sum":"` + salt1 + `"}`), of(`{"sum":"` + salt1 + `","count":5e1}`), of(`{"count":50}`), of(`[{"start":0,"count":208,"epoch":5}]`), of(`{"start":0,"count":208,"epoch":5}`)}
	for _, m := range []api.Meta{still(), turning(true, 1, 40), stepping(false, 2, 40)} {
		s := printed(t, m)
		v := tree(t, s)
		for path := range scroll.Walk(v) {
			for _, x := range others {
				if path != "" {
					in := setAt(t, v, path, x)
					parseAs(t, path+" as "+textOf(t, x), in)
				}
			}
		}
	}
}

// P9.6: of a kind that may not be there is ErrLedgerText, though the rest may not be either; the form is asked of all ahead of Check.
func TestFormFirst(t *testing.T) {
	s := printed(t, still())
	bad := strings.Replace(s, `"unit":512`, `"unit":513`, 1)
	if e := parseAs(t, "a unit that may not be", bad); e != api.ErrLedgerShape {
		t.Errorf("error %d", e)
	}
	for _, v := range [][2]string{{`"sha512"`, `"sha384"`}, {`"note":""`, `"note":null`}, {`"rotation":null`, `"rotation":false`}, {`"rotation":null`, `"rotation":{}`}, {`"30":`, `"030":`}, {`"30":`, `"":`}, {`"30":`, `"+30":`}, {`"30":`, `"30 ":`}, {`"30":`, `"3_0":`}, {`"30":`, `"0x1e":`}, {`"30":`, `"3e1":`}, {`"30":`, `"30.0":`}, {`"30":`, `"-0":`}, {`"30":`, `"٣":`}, {`"30":`, `"4611686018427387905":`}, {`"30":`, `"18446744073709551646":`}, {`"slots":[]`, `"slots":{}`}, {`"slots":[]`, `"slots":[null]`}} {
		in := strings.Replace(bad, v[0], v[1], 1)
		if in == bad {
			t.Fatalf("%s is not there", v[0])
		}
		if e := parseAs(t, v[1], in); e != api.ErrLedgerText {
			t.Errorf("%s for %s: error %d", v[1], v[0], e)
		}
	}
	for key, want := range map[string]api.Errno{`"31":`: api.OK, `"0":`: api.OK, `"32":`: api.ErrLedgerToken, `"4611686018427387904":`: api.ErrLedgerToken, `"\u0033\u0031":`: api.OK} {
		if e := parseAs(t, key, strings.Replace(s, `"30":`, key, 1)); e != want {
			t.Errorf("a token %s: error %d, not %d", key, e, want)
		}
	}
	for key, want := range map[string]api.Errno{"4611686018427387904": api.OK, "4611686018427387905": api.ErrLedgerText, "0": api.OK} {
		in := strings.Replace(strings.Replace(s, `"5":{"cipher`, `"`+key+`":{"cipher`, 1), `"epoch":5`, `"epoch":`+key, 1)
		if e := parseAs(t, key, in); e != want {
			t.Errorf("an epoch %s: error %d, not %d", key, e, want)
		}
	}
}

// rewritten gives v with the members in another order, and numbers written otherwise.
func rewritten(r *rand.Rand, v api.Json) api.Json {
	out := api.Json{Kind: v.Kind, Text: v.Text}
	order := r.Perm(len(v.Items))
	if v.Kind == api.JList {
		slices.Sort(order)
	}
	for _, i := range order {
		out.Items = append(out.Items, rewritten(r, v.Items[i]))
		if v.Kind == api.JObject {
			out.Keys = append(out.Keys, v.Keys[i])
		}
	}
	if v.Kind == api.JNumber {
		out.Text = spelt(r.Intn(5), v.Text)
	}
	return out
}

// spelt gives a number in another writing.
func spelt(how int, digits string) string {
	switch {
	case how == 0:
		return digits + ".00"
	case how == 1:
		return digits + "e0"
	case how < 4 && digits == "0":
		return "-0e55"
	case how == 2:
		return digits + "000E-3"
	case how == 3:
		return digits[:1] + "." + digits[1:] + fmt.Sprintf("0e+%d", len(digits)-1)
	}
	return digits
}

// P9.6, P9.7: members in another order, numbers written otherwise, and blanks make texts that are taken alike; printed, they are the one text.
func TestOtherWritings(t *testing.T) {
	r := rand.New(rand.NewSource(97))
	for _, m := range those() {
		s := printed(t, m)
		v := tree(t, s)
		for range 60 {
			w := rewritten(r, v)
			if !scroll.Same(v, w) {
				t.Fatalf("not the same: %s", textOf(t, w))
			}
			lines, _ := scroll.Pretty(w)
			for _, in := range []string{textOf(t, w), lines} {
				got, e, at := ledger.Parse(in)
				if e != api.OK || at != 0 || !same(got, m) {
					t.Fatalf("%s: error %d at %d, %v", in, e, at, got)
				}
				if printed(t, got) != s {
					t.Fatalf("%s: printed otherwise", in)
				}
				parseAs(t, "written otherwise", in)
			}
		}
		for _, way := range [][2]string{{`"unit"`, `"\u0075nit"`}, {`"sha256"`, `"\u0073ha256"`}, {`"3":`, `"\u0033":`}, {`"aes256-xts`, `"aes256-\u0078ts`}} {
			if got, e, _ := ledger.Parse(strings.ReplaceAll(s, way[0], way[1])); e != api.OK || !same(got, m) {
				t.Errorf("%s: error %d", way[1], e)
			}
		}
	}
}

// P9.6: keyslots, epochs and tokens come by rising number, whatever their keys' order is as texts.
func TestNumbersRise(t *testing.T) {
	m := still()
	m.Slots[1].Number = 10
	m.Slots = append(m.Slots[:1:1], api.Slot{Number: 2, Hash: 256, Turns: 1, Salt: filled(32, 1), Cipher: "aes128-ecb", Stripes: 1, Area: api.Area{Offset: 40960, Size: 4096}}, m.Slots[1])
	m.Tokens = []api.Token{{Number: 2, Kind: "b", Slots: []int{2, 10}}, {Number: 10, Kind: "a"}, {Number: 11, Kind: "c"}}
	v := tree(t, printed(t, m))
	r := rand.New(rand.NewSource(3))
	for range 100 {
		if got, e, _ := ledger.Parse(textOf(t, rewritten(r, v))); e != api.OK || !same(got, m) {
			t.Fatalf("error %d, %v", e, got)
		}
	}
}

// P9.6: the order of a list counts: of segments, and of a token's slots.
func TestListsAsTheyStand(t *testing.T) {
	s := printed(t, turning(false, 1, 40))
	one, two := `{"start":0,"count":40,"epoch":9}`, `{"start":40,"count":168,"epoch":5}`
	if e := parseAs(t, "segments turned", strings.Replace(s, one+","+two, two+","+one, 1)); e != api.ErrLedgerSegment {
		t.Errorf("segments turned: error %d", e)
	}
	if e := parseAs(t, "slots turned", strings.Replace(s, `"slots":[0,3]`, `"slots":[3,0]`, 1)); e != api.ErrLedgerToken {
		t.Errorf("slots turned: error %d", e)
	}
}

// P10, P9.6: whatever the text is, the answer is the model's.
func TestAnyText(t *testing.T) {
	t.Parallel()
	r := rand.New(rand.NewSource(10))
	var texts []string
	for _, m := range those() {
		texts = append(texts, printed(t, m))
	}
	met := map[api.Errno]int{}
	for range 10000 {
		b := []byte(texts[r.Intn(len(texts))])
		for range 1 + r.Intn(2) {
			at := r.Intn(len(b))
			switch r.Intn(6) {
			case 0:
				b[at] = byte(r.Intn(256))
			case 1:
				b = slices.Delete(b, at, at+1)
			case 2:
				b = slices.Insert(b, at, `0123456789,:{}[]"e-. ntf`[r.Intn(24)])
			case 3:
				b[at] = "0123456789"[r.Intn(10)]
			default:
				digit := strings.IndexAny(string(b[at:]), "0123456789")
				if digit >= 0 {
					b[at+digit] = "0123456789"[r.Intn(10)]
				}
			}
		}
		met[parseAs(t, "a changed text", string(b))]++
	}
	for _, e := range []api.Errno{api.OK, api.ErrScrollByte, api.ErrLedgerText, api.ErrLedgerShape, api.ErrLedgerDigest, api.ErrLedgerSlot, api.ErrLedgerEpoch, api.ErrLedgerRotation, api.ErrLedgerSegment, api.ErrLedgerArea} {
		if met[e] == 0 {
			t.Errorf("error %d came %d times", e, met[e])
		}
	}
}

// P9.6: as many members by number as a text can have are read, and refused by their number.
func TestManyMembers(t *testing.T) {
	s := printed(t, small())
	var many []string
	for i := range 15000 {
		many = append(many, fmt.Sprintf(`"%d":{"kind":"k","slots":[],"note":""}`, i))
	}
	in := strings.Replace(s, `"tokens":{}`, `"tokens":{`+strings.Join(many, ",")+`}`, 1)
	if e := parseAs(t, "many tokens", in); e != api.ErrLedgerToken {
		t.Errorf("error %d", e)
	}
}

// P9.7: random metadata that may be go there and back.
func TestRandomThereAndBack(t *testing.T) {
	t.Parallel()
	r := rand.New(rand.NewSource(98))
	count := 0
	all := those()
	for range 8000 {
		m := tidy(all[r.Intn(len(all))])
		for range 1 + r.Intn(3) {
			ls := leaves(&m)
			put(ls[r.Intn(len(ls))].v, r.Intn(100))
		}
		if r.Intn(2) == 0 {
			m.Segments = ledger.Segments(m)
		}
		s, e := ledger.Print(m)
		if e != api.OK {
			continue
		}
		count++
		got, e, at := ledger.Parse(s)
		if e != api.OK || at != 0 || !same(got, m) || printed(t, got) != s {
			t.Fatalf("%s: error %d at %d", s, e, at)
		}
	}
	if count < 200 {
		t.Errorf("%d only", count)
	}
}
