package ledger_test

import (
	"encoding/base64"
	"fmt"
	"math/big"
	"reflect"
	"regexp"
	"slices"
	"sort"
	"strings"
	"testing"
	"unicode/utf8"

	"coffer/api"
	"coffer/ledger"
	"coffer/scroll"
)

// filled gives n bytes that are not all alike, of all values.
func filled(n, by int) string {
	b := make([]byte, n)
	for i := range b {
		b[i] = byte(i*37 + by*101)
	}
	return string(b)
}

// still gives metadata without a rotation: N is 208, the keyslots area goes from 32768 to 98304.
func still() api.Meta {
	m := api.Meta{
		Shape:  api.Shape{Unit: 512, Count: 400, Head: 16384, Keys: 65536},
		Digest: api.KeyDigest{Turns: 1000, Salt: filled(32, 1), Digest: filled(32, 2)},
		Slots: []api.Slot{
			{Number: 0, Priority: 1, Hash: 256, Turns: 7, Salt: filled(32, 3), Cipher: "aes256-xts-plain64", Stripes: 2, Area: api.Area{Offset: 32768, Size: 4096}},
			{Number: 3, Priority: 2, Hash: 512, Turns: 1 << 20, Salt: filled(32, 4), Cipher: "aes128-cbc-essiv:sha256", Stripes: 200, Area: api.Area{Offset: 90112, Size: 8192}},
		},
		Epochs: []api.Epoch{{Number: 5, Cipher: "aes128-cbc-plain", Nonce: filled(32, 5), Sealed: filled(24, 6), Check: filled(32, 7)}},
		Tokens: []api.Token{
			{Number: 1, Kind: "paper", Slots: []int{0, 3}, Note: "in the \"drawer\"\n\x01é😀"},
			{Number: 30, Kind: "k"},
		},
	}
	m.Segments = modelSegments(m)
	return m
}

// turning gives metadata with a rotation that is on, between two steps.
func turning(back bool, mode int, done uint64) api.Meta {
	m := still()
	m.Epochs = append(m.Epochs, api.Epoch{Number: 9, Cipher: "aes256-hctr2-plain64", Nonce: filled(32, 8), Sealed: filled(40, 9), Check: filled(32, 10)})
	m.Rotation = api.Rotation{On: true, From: 5, To: 9, Back: back, Mode: mode, Hot: 50, Done: done, Area: api.Area{Offset: 40960, Size: 28672}}
	m.Segments = modelSegments(m)
	return m
}

// stepping gives metadata with a rotation in the midst of a step.
func stepping(back bool, mode int, done uint64) api.Meta {
	m := turning(back, mode, done)
	m.Rotation.Active, m.Rotation.Count, m.Rotation.Sum = true, min(50, 208-done), filled(32, 11)
	return m
}

// those gives metadata of all kinds, all of which may be.
func those() []api.Meta {
	bare := still()
	bare.Slots, bare.Tokens = bare.Slots[:1], nil
	open := turning(false, 1, 7)
	open.Epochs[0].Cipher, open.Epochs[0].Sealed = "null", ""
	return []api.Meta{
		still(), bare, open,
		turning(false, 1, 0), turning(false, 2, 40), turning(true, 1, 40), turning(true, 2, 208), turning(false, 1, 208),
		stepping(false, 1, 0), stepping(true, 1, 0), stepping(false, 2, 200), stepping(true, 2, 207),
	}
}

// modelShape is 0.2's words a second time, without bound: N, and whether the shape may be.
func modelShape(s api.Shape) (uint64, bool) {
	switch s.Unit {
	case 512, 1024, 2048, 4096:
	default:
		return 0, false
	}
	power := false
	for p := 14; p <= 22; p++ {
		power = power || s.Head == 1<<p
	}
	if !power || s.Keys < 4096 || s.Keys > 134217728 || s.Keys%4096 != 0 || s.Count > 4294967296 {
		return 0, false
	}
	bytes := new(big.Int).Mul(new(big.Int).SetUint64(s.Count), big.NewInt(int64(s.Unit)))
	data := bytes.Sub(bytes, big.NewInt(2*int64(s.Head)+int64(s.Keys)))
	return data.Uint64() / uint64(s.Unit), data.Sign() > 0
}

// modelSegments is P9.3 a second time: each sector by itself.
func modelSegments(m api.Meta) []api.Segment {
	n, may := modelShape(m.Shape)
	if !may || len(m.Epochs) == 0 {
		return nil
	}
	r := m.Rotation
	if !r.On {
		return []api.Segment{{Start: 0, Count: n, Epoch: m.Epochs[len(m.Epochs)-1].Number}}
	}
	switch {
	case r.Done > n:
		return nil
	case r.Done == n:
		return []api.Segment{{Count: n, Epoch: r.To}}
	case r.Done == 0:
		return []api.Segment{{Count: n, Epoch: r.From}}
	case r.Back:
		return []api.Segment{{Count: n - r.Done, Epoch: r.From}, {Start: n - r.Done, Count: r.Done, Epoch: r.To}}
	}
	return []api.Segment{{Count: r.Done, Epoch: r.To}, {Start: r.Done, Count: n - r.Done, Epoch: r.From}}
}

// modelKey is layer 3's table of keys: their bytes, -1 of no name.
func modelKey(name string) int {
	if name == "null" {
		return 0
	}
	for prefix, b := range map[string]int{"aes128-": 16, "aes192-": 24, "aes256-": 32} {
		mode, has := strings.CutPrefix(name, prefix)
		if !has {
			continue
		}
		switch mode {
		case "ecb", "cbc-null", "cbc-plain", "cbc-plain64", "cbc-plain64be", "cbc-benbi", "cbc-essiv:sha256", "cbc-eboiv", "hctr2-plain", "hctr2-plain64":
			return b
		case "cbc-elephant", "xts-plain", "xts-plain64", "xts-plain64be", "xts-essiv:sha256":
			return 2 * b
		case "cbc-tcw":
			return b + 32
		case "lrw-benbi":
			return b + 16
		}
	}
	return -1
}

func modelSlot(s api.Slot) bool {
	return s.Number >= 0 && s.Number <= 31 && s.Priority >= 0 && s.Priority <= 2 && (s.Hash == 256 || s.Hash == 512) &&
		s.Turns >= 1 && s.Turns <= 1048576 && len(s.Salt) == 32 && modelKey(s.Cipher) > 0 && s.Stripes >= 1 && s.Stripes <= 4000
}

func modelEpoch(e api.Epoch) bool {
	key := modelKey(e.Cipher)
	sealed := map[bool]int{true: 0, false: key + 8}[key == 0]
	return e.Number <= 1<<62 && key >= 0 && len(e.Nonce) == 32 && len(e.Check) == 32 && len(e.Sealed) == sealed
}

func modelToken(t api.Token) bool {
	if t.Number < 0 || t.Number > 31 || len(t.Kind) < 1 || len(t.Kind) > 64 || len(t.Note) > 4096 || !utf8.ValidString(t.Kind) || !utf8.ValidString(t.Note) {
		return false
	}
	for i, s := range t.Slots {
		if s < 0 || s > 31 || i > 0 && s <= t.Slots[i-1] {
			return false
		}
	}
	return true
}

func modelRotation(m api.Meta) bool {
	n, _ := modelShape(m.Shape)
	r := m.Rotation
	if !r.On {
		return reflect.ValueOf(r).IsZero()
	}
	if r.From != m.Epochs[0].Number || r.To != m.Epochs[1].Number || r.Mode != 1 && r.Mode != 2 || r.Hot == 0 || r.Hot > 4096 || r.Done > n {
		return false
	}
	if !r.Active {
		return r.Count == 0 && r.Sum == ""
	}
	want := n - r.Done
	if want > r.Hot {
		want = r.Hot
	}
	return want > 0 && r.Count == want && len(r.Sum) == 32
}

// modelAreas marks the steps of the keyslots area that are claimed.
func modelAreas(m api.Meta) bool {
	first, last := 2*int64(m.Shape.Head), 2*int64(m.Shape.Head)+int64(m.Shape.Keys)
	claimed := map[int64]bool{}
	claim := func(a api.Area) bool {
		end := new(big.Int).Add(big.NewInt(a.Offset), big.NewInt(a.Size))
		if a.Offset%4096 != 0 || a.Size%4096 != 0 || a.Offset < first || end.Cmp(big.NewInt(last)) > 0 {
			return false
		}
		for at := a.Offset; at < a.Offset+a.Size; at += 4096 {
			if claimed[at] {
				return false
			}
			claimed[at] = true
		}
		return true
	}
	for _, s := range m.Slots {
		if s.Area.Size != (int64(s.Stripes)*32+4095)&^4095 || !claim(s.Area) {
			return false
		}
	}
	if !m.Rotation.On {
		return true
	}
	need := int64(m.Rotation.Hot) * 32
	if m.Rotation.Mode == 1 {
		need = int64(m.Rotation.Hot) * int64(m.Shape.Unit)
	}
	return m.Rotation.Area.Size >= (need+4095)&^4095 && claim(m.Rotation.Area)
}

// modelCheck is P9.4 a second time.
func modelCheck(m api.Meta) api.Errno {
	if _, may := modelShape(m.Shape); !may {
		return 90
	}
	if m.Digest.Turns < 1 || m.Digest.Turns > 1048576 || len(m.Digest.Salt) != 32 || len(m.Digest.Digest) != 32 {
		return 91
	}
	if len(m.Slots) < 1 || len(m.Slots) > 32 {
		return 92
	}
	for i, s := range m.Slots {
		if !modelSlot(s) || i > 0 && s.Number <= m.Slots[i-1].Number {
			return 92
		}
	}
	if m.Rotation.On && len(m.Epochs) != 2 || !m.Rotation.On && len(m.Epochs) != 1 {
		return 93
	}
	for i, e := range m.Epochs {
		if !modelEpoch(e) || i > 0 && e.Number <= m.Epochs[i-1].Number {
			return 93
		}
	}
	if !modelRotation(m) {
		return 94
	}
	if fmt.Sprint(m.Segments) != fmt.Sprint(modelSegments(m)) {
		return 95
	}
	if !modelAreas(m) {
		return 96
	}
	return modelTokens(m)
}

func modelTokens(m api.Meta) api.Errno {
	if len(m.Tokens) > 32 {
		return 97
	}
	there := map[int]bool{}
	for _, s := range m.Slots {
		there[s.Number] = true
	}
	for i, t := range m.Tokens {
		if !modelToken(t) || i > 0 && t.Number <= m.Tokens[i-1].Number {
			return 97
		}
		for _, s := range t.Slots {
			if !there[s] {
				return 97
			}
		}
	}
	return 0
}

// quoted is chapter 7's text in quotes.
func quoted(s string) string {
	var out strings.Builder
	for i := range len(s) {
		switch at := strings.IndexByte("\"\\\b\f\n\r\t", s[i]); {
		case at >= 0:
			out.WriteString(`\` + `"\bfnrt`[at:at+1])
		case s[i] < 32:
			fmt.Fprintf(&out, `\u%04x`, s[i])
		default:
			out.WriteByte(s[i])
		}
	}
	return `"` + out.String() + `"`
}

func b64(s string) string { return `"` + base64.StdEncoding.EncodeToString([]byte(s)) + `"` }

// modelPrint is P9.5's table a second time, of metadata that may be.
func modelPrint(m api.Meta) string {
	var slots, epochs, segments, tokens []string
	for _, s := range m.Slots {
		slots = append(slots, fmt.Sprintf(`"%d":{"priority":%d,"hash":"sha%d","turns":%d,"salt":%s,"cipher":%s,"stripes":%d,"offset":%d,"size":%d}`,
			s.Number, s.Priority, s.Hash, s.Turns, b64(s.Salt), quoted(s.Cipher), s.Stripes, s.Area.Offset, s.Area.Size))
	}
	for _, e := range m.Epochs {
		epochs = append(epochs, fmt.Sprintf(`"%d":{"cipher":%s,"nonce":%s,"sealed":%s,"check":%s}`, e.Number, quoted(e.Cipher), b64(e.Nonce), b64(e.Sealed), b64(e.Check)))
	}
	for _, s := range m.Segments {
		segments = append(segments, fmt.Sprintf(`{"start":%d,"count":%d,"epoch":%d}`, s.Start, s.Count, s.Epoch))
	}
	for _, t := range m.Tokens {
		numbers := strings.ReplaceAll(strings.Trim(fmt.Sprint(t.Slots), "[]"), " ", ",")
		tokens = append(tokens, fmt.Sprintf(`"%d":{"kind":%s,"slots":[%s],"note":%s}`, t.Number, quoted(t.Kind), numbers, quoted(t.Note)))
	}
	rotation, step := "null", "null"
	if r := m.Rotation; r.On {
		if r.Active {
			step = fmt.Sprintf(`{"count":%d,"sum":%s}`, r.Count, b64(r.Sum))
		}
		mode := []string{"", "journal", "digests"}[r.Mode]
		rotation = fmt.Sprintf(`{"from":%d,"to":%d,"back":%v,"mode":"%s","hot":%d,"done":%d,"offset":%d,"size":%d,"step":%s}`,
			r.From, r.To, r.Back, mode, r.Hot, r.Done, r.Area.Offset, r.Area.Size, step)
	}
	return fmt.Sprintf(`{"config":{"unit":%d,"count":%d,"head":%d,"keys":%d},"digest":{"turns":%d,"salt":%s,"value":%s},"keyslots":{%s},"epochs":{%s},"segments":[%s],"rotation":%s,"tokens":{%s}}`,
		m.Shape.Unit, m.Shape.Count, m.Shape.Head, m.Shape.Keys, m.Digest.Turns, b64(m.Digest.Salt), b64(m.Digest.Digest),
		strings.Join(slots, ","), strings.Join(epochs, ","), strings.Join(segments, ","), rotation, strings.Join(tokens, ","))
}

// wrong is what a model's reader gives up with.
type wrong struct{}

func must(good bool) {
	if !good {
		panic(wrong{})
	}
}

// open gives an object's members, if they are just those.
func open(v api.Json, keys string) map[string]api.Json {
	must(v.Kind == api.JObject)
	have, want := slices.Clone(v.Keys), strings.Fields(keys)
	slices.Sort(have)
	slices.Sort(want)
	must(slices.Equal(have, want))
	return anyOf(v)
}

func anyOf(v api.Json) map[string]api.Json {
	must(v.Kind == api.JObject)
	out := map[string]api.Json{}
	for i, k := range v.Keys {
		out[k] = v.Items[i]
	}
	return out
}

var digits = regexp.MustCompile(`^(0|[1-9][0-9]{0,18})$`)

func whole(digit string) uint64 {
	must(digits.MatchString(digit))
	n, _ := new(big.Int).SetString(digit, 10)
	must(n.Cmp(new(big.Int).Lsh(big.NewInt(1), 62)) <= 0)
	return n.Uint64()
}

func number(v api.Json) uint64 {
	must(v.Kind == api.JNumber)
	form, _ := scroll.Normal(v.Text)
	return whole(form)
}

func text(v api.Json) string {
	must(v.Kind == api.JText)
	return v.Text
}

func bytesOf(v api.Json) string {
	b, err := base64.StdEncoding.Strict().DecodeString(text(v))
	must(err == nil && !strings.ContainsAny(v.Text, "\r\n"))
	return string(b)
}

func oneOf(v api.Json, words ...string) int {
	i := slices.Index(words, text(v))
	must(i >= 0)
	return i
}

// modelRead is P9.6's 'such an object' a second time.
func modelRead(v api.Json) (m api.Meta, good bool) {
	defer func() {
		if r := recover(); r != nil {
			m, good = api.Meta{}, false
			if _, gaveUp := r.(wrong); !gaveUp {
				panic(r)
			}
		}
	}()
	top := open(v, "config digest keyslots epochs segments rotation tokens")
	c := open(top["config"], "unit count head keys")
	m.Shape = api.Shape{Unit: int(number(c["unit"])), Count: number(c["count"]), Head: int(number(c["head"])), Keys: int(number(c["keys"]))}
	d := open(top["digest"], "turns salt value")
	m.Digest = api.KeyDigest{Turns: int(number(d["turns"])), Salt: bytesOf(d["salt"]), Digest: bytesOf(d["value"])}
	for k, x := range anyOf(top["keyslots"]) {
		s := open(x, "priority hash turns salt cipher stripes offset size")
		m.Slots = append(m.Slots, api.Slot{Number: int(whole(k)), Priority: int(number(s["priority"])), Hash: []int{256, 512}[oneOf(s["hash"], "sha256", "sha512")],
			Turns: int(number(s["turns"])), Salt: bytesOf(s["salt"]), Cipher: text(s["cipher"]), Stripes: int(number(s["stripes"])),
			Area: api.Area{Offset: int64(number(s["offset"])), Size: int64(number(s["size"]))}})
	}
	for k, x := range anyOf(top["epochs"]) {
		e := open(x, "cipher nonce sealed check")
		m.Epochs = append(m.Epochs, api.Epoch{Number: whole(k), Cipher: text(e["cipher"]), Nonce: bytesOf(e["nonce"]), Sealed: bytesOf(e["sealed"]), Check: bytesOf(e["check"])})
	}
	must(top["segments"].Kind == api.JList)
	for _, x := range top["segments"].Items {
		s := open(x, "start count epoch")
		m.Segments = append(m.Segments, api.Segment{Start: number(s["start"]), Count: number(s["count"]), Epoch: number(s["epoch"])})
	}
	m.Rotation = modelTurn(top["rotation"])
	for k, x := range anyOf(top["tokens"]) {
		w := open(x, "kind slots note")
		t := api.Token{Number: int(whole(k)), Kind: text(w["kind"]), Note: text(w["note"])}
		must(w["slots"].Kind == api.JList)
		for _, s := range w["slots"].Items {
			t.Slots = append(t.Slots, int(number(s)))
		}
		m.Tokens = append(m.Tokens, t)
	}
	sort.Slice(m.Slots, func(i, j int) bool { return m.Slots[i].Number < m.Slots[j].Number })
	sort.Slice(m.Epochs, func(i, j int) bool { return m.Epochs[i].Number < m.Epochs[j].Number })
	sort.Slice(m.Tokens, func(i, j int) bool { return m.Tokens[i].Number < m.Tokens[j].Number })
	return m, true
}

func modelTurn(v api.Json) api.Rotation {
	if v.Kind == api.JNull {
		return api.Rotation{}
	}
	r := open(v, "from to back mode hot done offset size step")
	must(r["back"].Kind == api.JTrue || r["back"].Kind == api.JFalse)
	out := api.Rotation{On: true, From: number(r["from"]), To: number(r["to"]), Back: r["back"].Kind == api.JTrue, Mode: 1 + oneOf(r["mode"], "journal", "digests"),
		Hot: number(r["hot"]), Done: number(r["done"]), Area: api.Area{Offset: int64(number(r["offset"])), Size: int64(number(r["size"]))}}
	if r["step"].Kind != api.JNull {
		s := open(r["step"], "count sum")
		out.Active, out.Count, out.Sum = true, number(s["count"]), bytesOf(s["sum"])
	}
	return out
}

// modelParse is P9.6 a second time.
func modelParse(text string) (api.Meta, api.Errno, int) {
	v, e, at := scroll.Parse(text)
	if e != api.OK {
		return api.Meta{}, e, at
	}
	m, good := modelRead(v)
	if !good {
		return api.Meta{}, 98, 0
	}
	if e := modelCheck(m); e != api.OK {
		return api.Meta{}, e, 0
	}
	return m, 0, 0
}

// tidy gives metadata with nil for each empty list.
func tidy(m api.Meta) api.Meta {
	m.Slots = append([]api.Slot(nil), m.Slots...)
	m.Epochs = append([]api.Epoch(nil), m.Epochs...)
	m.Segments = append([]api.Segment(nil), m.Segments...)
	m.Tokens = append([]api.Token(nil), m.Tokens...)
	for i, t := range m.Tokens {
		m.Tokens[i].Slots = append([]int(nil), t.Slots...)
	}
	return m
}

// same tells whether two are the same, an empty list and nil too.
func same(a, b api.Meta) bool { return reflect.DeepEqual(tidy(a), tidy(b)) }

// checkAs holds Check and Print of m against the model.
func checkAs(t *testing.T, what string, m api.Meta) {
	t.Helper()
	want := modelCheck(m)
	if got := ledger.Check(m); got != want {
		t.Errorf("%s: Check: error %d, not %d", what, got, want)
	}
	told := ""
	if want == api.OK {
		told = modelPrint(m)
	}
	if got, e := ledger.Print(m); got != told || e != want {
		t.Errorf("%s: Print: %.200q, error %d, not %.200q, error %d", what, got, e, told, want)
	}
}

// parseAs holds Parse of a text against the model; it tells Parse's error.
func parseAs(t *testing.T, what, in string) api.Errno {
	t.Helper()
	m, e, at := ledger.Parse(in)
	want, why, place := modelParse(in)
	if e != why || at != place || !same(m, want) {
		t.Errorf("%s: Parse: error %d at %d, not %d at %d; %v, not %v", what, e, at, why, place, m, want)
	}
	return e
}

// printed gives the text of metadata that may be.
func printed(t *testing.T, m api.Meta) string {
	t.Helper()
	s, e := ledger.Print(m)
	if e != api.OK {
		t.Fatalf("Print: error %d", e)
	}
	return s
}
