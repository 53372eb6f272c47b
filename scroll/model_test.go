package scroll_test

import (
	"math/big"
	"math/rand"
	"regexp"
	"slices"
	"sort"
	"strconv"
	"strings"
	"testing"
	"unicode/utf16"

	"coffer/api"
	"coffer/scroll"
)

// A second reckoning of the chapter's words: a machine of states over the bytes instead of calls in calls, whole numbers without bound, texts byte by byte, and paths that are held against each other as they are written. What the package answers is held against it.

var letters = []struct {
	size      int
	low, high [4]byte
}{ // Unicode's table of what is well-formed UTF-8
	{1, [4]byte{0x00}, [4]byte{0x7f}},
	{2, [4]byte{0xc2, 0x80}, [4]byte{0xdf, 0xbf}},
	{3, [4]byte{0xe0, 0xa0, 0x80}, [4]byte{0xe0, 0xbf, 0xbf}},
	{3, [4]byte{0xe1, 0x80, 0x80}, [4]byte{0xec, 0xbf, 0xbf}},
	{3, [4]byte{0xed, 0x80, 0x80}, [4]byte{0xed, 0x9f, 0xbf}},
	{3, [4]byte{0xee, 0x80, 0x80}, [4]byte{0xef, 0xbf, 0xbf}},
	{4, [4]byte{0xf0, 0x90, 0x80, 0x80}, [4]byte{0xf0, 0xbf, 0xbf, 0xbf}},
	{4, [4]byte{0xf1, 0x80, 0x80, 0x80}, [4]byte{0xf3, 0xbf, 0xbf, 0xbf}},
	{4, [4]byte{0xf4, 0x80, 0x80, 0x80}, [4]byte{0xf4, 0x8f, 0xbf, 0xbf}},
}

// letterSize tells the bytes of the letter that a text begins with; 0 if there is none.
func letterSize(text string) int {
	for _, l := range letters {
		fits := len(text) >= l.size
		for i := 0; fits && i < l.size; i++ {
			fits = text[i] >= l.low[i] && text[i] <= l.high[i]
		}
		if fits {
			return l.size
		}
	}
	return 0
}

func isText(text string) bool {
	for text != "" {
		n := letterSize(text)
		if n == 0 {
			return false
		}
		text = text[n:]
	}
	return true
}

var (
	numberForm = regexp.MustCompile(`^(-?)(0|[1-9][0-9]*)(?:\.([0-9]+))?(?:[eE]([+-]?[0-9]{1,6}))?$`)
	ten        = big.NewInt(10)
)

// modelNormal tells a number's one form.
func modelNormal(number string) (string, api.Errno) {
	if len(number) == 1 && number[0] >= '0' && number[0] <= '9' { // most of great values' numbers: the way below is slow
		return number, api.OK
	}
	m := numberForm.FindStringSubmatch(number)
	if m == nil || len(number) > 64 {
		return "", api.ErrScrollNumber
	}
	d, _ := new(big.Int).SetString(m[2]+m[3], 10)
	if d.Sign() == 0 {
		return "0", api.OK
	}
	k, _ := strconv.Atoi(m[4])
	k -= len(m[3])
	for {
		q, rest := new(big.Int).QuoRem(d, ten, new(big.Int))
		if rest.Sign() != 0 {
			break
		}
		d, k = q, k+1
	}
	form := m[1] + modelLaid(d, k)
	if len(form) > 64 || k > 999999 || k < -999999 {
		return "", api.ErrScrollNumber
	}
	return form, api.OK
}

func modelLaid(d *big.Int, k int) string {
	n := len(d.String())
	if k == 0 || k > 0 && n+k <= 20 {
		return new(big.Int).Mul(d, new(big.Int).Exp(ten, big.NewInt(int64(k)), nil)).String()
	}
	if k < 0 && k >= -20 {
		whole, part := new(big.Int).QuoRem(d, new(big.Int).Exp(ten, big.NewInt(int64(-k)), nil), new(big.Int))
		digits := part.String()
		for len(digits) < -k {
			digits = "0" + digits
		}
		return whole.String() + "." + digits
	}
	return d.String() + "e" + strconv.Itoa(k)
}

// modelWhole tells a number that is asked for between two bounds.
func modelWhole(v api.Json, low, high *big.Int) (*big.Int, api.Errno) {
	if v.Kind != api.JNumber {
		return new(big.Int), api.ErrScrollKind
	}
	form, e := modelNormal(v.Text)
	if e != api.OK {
		return new(big.Int), e
	}
	if m := numberForm.FindStringSubmatch(form); len(m[4]) > 3 { // as great or small a power leads out of all bounds
		return new(big.Int), api.ErrScrollNumber
	}
	r, _ := new(big.Rat).SetString(form)
	if !r.IsInt() || r.Num().Cmp(low) < 0 || r.Num().Cmp(high) > 0 {
		return new(big.Int), api.ErrScrollNumber
	}
	return r.Num(), api.OK
}

// modelCheck goes through the values with a stack.
func modelCheck(v api.Json) api.Errno {
	type at struct {
		v      api.Json
		nested int
	}
	stack := []at{{v, 0}}
	for count := 1; len(stack) > 0; count++ {
		x := stack[len(stack)-1]
		stack = stack[:len(stack)-1]
		if count == 65537 {
			return api.ErrScrollMany
		}
		if x.nested >= 32 && x.v.Kind >= api.JList && x.v.Kind <= api.JObject {
			return api.ErrScrollDeep
		}
		if e := modelFits(x.v); e != api.OK {
			return e
		}
		for i := len(x.v.Items) - 1; i >= 0; i-- {
			stack = append(stack, at{x.v.Items[i], x.nested + 1})
		}
	}
	return api.OK
}

func modelFits(v api.Json) api.Errno {
	may := map[int]string{1: "", 2: "", 3: "", 4: "t", 5: "t", 6: "i", 7: "ik"}
	has, known := may[v.Kind]
	switch {
	case !known,
		v.Text != "" && !strings.Contains(has, "t"),
		len(v.Items) != 0 && !strings.Contains(has, "i"),
		len(v.Keys) != 0 && !strings.Contains(has, "k"),
		v.Kind == api.JObject && len(v.Keys) != len(v.Items):
		return api.ErrScrollKind
	}
	if v.Kind == api.JNumber {
		_, e := modelNormal(v.Text)
		return e
	}
	if !isText(v.Text) || slices.ContainsFunc(v.Keys, func(k string) bool { return !isText(k) }) {
		return api.ErrScrollText
	}
	keys := slices.Clone(v.Keys)
	sort.Strings(keys)
	if len(slices.Compact(keys)) != len(v.Keys) {
		return api.ErrScrollTwice
	}
	return api.OK
}

// member is a key of an object that is open.
type member struct {
	of  *api.Json
	key string
}

// machine reads a text byte by byte.
type machine struct {
	text   string
	at     int
	state  string
	open   []*api.Json // from the outermost on
	met    map[member]bool
	count  int
	result api.Json
}

// modelParse reads a text.
func modelParse(text string) (api.Json, api.Errno, int) {
	if len(text) > 4194304 {
		return api.Json{}, api.ErrLong, 4194304
	}
	m := &machine{text: text, state: "value", met: map[member]bool{}}
	for {
		for m.at < len(text) && strings.IndexByte(" \t\n\r", text[m.at]) >= 0 {
			m.at++
		}
		if m.at == len(text) && m.state == "done" {
			return m.result, api.OK, 0
		}
		if m.at == len(text) {
			return api.Json{}, api.ErrScrollEnd, len(text)
		}
		if e, at := m.step(text[m.at]); e != api.OK {
			return api.Json{}, e, at
		}
	}
}

func (m *machine) top() *api.Json { return m.open[len(m.open)-1] }

// step reads a mark, a key or what a value begins with, by the state in which the text is.
func (m *machine) step(b byte) (api.Errno, int) {
	switch {
	case m.state == "done":
		return api.ErrScrollMore, m.at
	case m.state == "colon" && b == ':':
		m.state, m.at = "value", m.at+1
	case m.state == "behind" && b == ',':
		m.state, m.at = "value", m.at+1
		if m.top().Kind == api.JObject {
			m.state = "key"
		}
	case b == ']' && (m.state == "behind" || m.state == "first") && m.top().Kind == api.JList,
		b == '}' && (m.state == "behind" || m.state == "first key") && m.top().Kind == api.JObject:
		v := *m.top()
		m.open, m.at = m.open[:len(m.open)-1], m.at+1
		m.lay(v)
	case (m.state == "key" || m.state == "first key") && b == '"':
		return m.key()
	case (m.state == "value" || m.state == "first") && strings.IndexByte(`nft"[{-0123456789`, b) >= 0:
		return m.begin(b)
	default:
		return api.ErrScrollByte, m.at
	}
	return api.OK, 0
}

// lay puts a value where it belongs.
func (m *machine) lay(v api.Json) {
	if len(m.open) == 0 {
		m.result, m.state = v, "done"
		return
	}
	m.top().Items = append(m.top().Items, v)
	m.state = "behind"
}

func (m *machine) key() (api.Errno, int) {
	key, end, e, at := modelQuoted(m.text, m.at)
	if e != api.OK {
		return e, at
	}
	if m.met[member{m.top(), key}] {
		return api.ErrScrollTwice, m.at
	}
	m.met[member{m.top(), key}] = true
	m.top().Keys = append(m.top().Keys, key)
	m.state, m.at = "colon", end
	return api.OK, 0
}

func (m *machine) begin(b byte) (api.Errno, int) {
	m.count++
	if m.count > 65536 {
		return api.ErrScrollMany, m.at
	}
	switch b {
	case '[', '{':
		if len(m.open) == 32 {
			return api.ErrScrollDeep, m.at
		}
		kind, state := api.JList, "first"
		if b == '{' {
			kind, state = api.JObject, "first key"
		}
		m.open = append(m.open, &api.Json{Kind: kind})
		m.state, m.at = state, m.at+1
		return api.OK, 0
	case '"':
		text, end, e, at := modelQuoted(m.text, m.at)
		if e != api.OK {
			return e, at
		}
		m.at = end
		m.lay(api.Json{Kind: api.JText, Text: text})
		return api.OK, 0
	case 'n', 'f', 't':
		return m.word(map[byte]string{'n': "null", 'f': "false", 't': "true"}[b], map[byte]int{'n': 1, 'f': 2, 't': 3}[b])
	}
	return m.number()
}

func (m *machine) word(word string, kind int) (api.Errno, int) {
	for i := range word {
		if m.at+i == len(m.text) {
			return api.ErrScrollEnd, len(m.text)
		}
		if m.text[m.at+i] != word[i] {
			return api.ErrScrollByte, m.at + i
		}
	}
	m.at += len(word)
	m.lay(api.Json{Kind: kind})
	return api.OK, 0
}

// numberStates: of each state, which bytes lead to which other one; of a number that is whole the state's name has a +.
var numberStates = map[string][][2]string{
	"start":  {{"-", "minus"}, {"0", "zero+"}, {"123456789", "whole+"}},
	"minus":  {{"0", "zero+"}, {"123456789", "whole+"}},
	"zero+":  {{".", "point"}, {"eE", "power"}},
	"whole+": {{"0123456789", "whole+"}, {".", "point"}, {"eE", "power"}},
	"point":  {{"0123456789", "part+"}},
	"part+":  {{"0123456789", "part+"}, {"eE", "power"}},
	"power":  {{"+-", "sign"}, {"0123456789", "1+"}},
	"sign":   {{"0123456789", "1+"}},
	"1+":     {{"0123456789", "2+"}},
	"2+":     {{"0123456789", "3+"}},
	"3+":     {{"0123456789", "4+"}},
	"4+":     {{"0123456789", "5+"}},
	"5+":     {{"0123456789", "6+"}},
	"6+":     {},
}

func (m *machine) number() (api.Errno, int) {
	state, end := "start", m.at
	for end < len(m.text) {
		next := ""
		for _, way := range numberStates[state] {
			if strings.IndexByte(way[0], m.text[end]) >= 0 {
				next = way[1]
			}
		}
		if next == "" {
			break
		}
		state, end = next, end+1
	}
	if !strings.HasSuffix(state, "+") {
		if end == len(m.text) {
			return api.ErrScrollEnd, end
		}
		return api.ErrScrollByte, end
	}
	text := m.text[m.at:end]
	if _, e := modelNormal(text); e != api.OK {
		return e, m.at
	}
	m.at = end
	m.lay(api.Json{Kind: api.JNumber, Text: text})
	return api.OK, 0
}

// modelQuoted reads a text in quotes from its quote on: the text, the place behind it; or an error and its place.
func modelQuoted(text string, from int) (string, int, api.Errno, int) {
	var out []byte
	for i := from + 1; i < len(text); {
		b := text[i]
		switch {
		case b == '"':
			return string(out), i + 1, api.OK, 0
		case b < 32:
			return "", 0, api.ErrScrollText, i
		case b != '\\':
			n := letterSize(text[i:])
			if n == 0 {
				return "", 0, api.ErrScrollText, i
			}
			out = append(out, text[i:i+n]...)
			i += n
		case i+1 == len(text):
			return "", 0, api.ErrScrollEnd, len(text)
		case text[i+1] == 'u':
			letter, n, e, at := modelNumbered(text, i)
			if e != api.OK {
				return "", 0, e, at
			}
			out = append(out, string(letter)...)
			i += n
		default:
			short := strings.IndexByte(`"\/bfnrt`, text[i+1])
			if short < 0 {
				return "", 0, api.ErrScrollText, i + 1
			}
			out = append(out, "\"\\/\b\f\n\r\t"[short])
			i += 2
		}
	}
	return "", 0, api.ErrScrollEnd, len(text)
}

// modelNumbered reads a \u at i, or two: the letter and their bytes.
func modelNumbered(text string, i int) (rune, int, api.Errno, int) {
	first, e, at := fourDigits(text, i+2)
	if e != api.OK {
		return 0, 0, e, at
	}
	if first>>11 != 0xd800>>11 {
		return first, 6, api.OK, 0
	}
	lone := func() (rune, int, api.Errno, int) { return 0, 0, api.ErrScrollText, i }
	if first >= 0xdc00 {
		return lone()
	}
	for j, b := range []byte(`\u`) {
		if i+6+j == len(text) {
			return 0, 0, api.ErrScrollEnd, len(text)
		}
		if text[i+6+j] != b {
			return lone()
		}
	}
	second, e, at := fourDigits(text, i+8)
	if e != api.OK {
		return 0, 0, e, at
	}
	if second>>10 != 0xdc00>>10 {
		return lone()
	}
	return utf16.DecodeRune(first, second), 12, api.OK, 0
}

func fourDigits(text string, i int) (rune, api.Errno, int) {
	for j := i; j < i+4; j++ {
		if j == len(text) {
			return 0, api.ErrScrollEnd, j
		}
		if !strings.ContainsRune("0123456789abcdefABCDEF", rune(text[j])) {
			return 0, api.ErrScrollText, j
		}
	}
	n, _ := strconv.ParseUint(text[i:i+4], 16, 32)
	return rune(n), api.OK, 0
}

// modelPrint writes a value that may be, in lines or not.
func modelPrint(v api.Json, pretty bool) string {
	if pretty {
		return modelWritten(v, "\n", true) + "\n"
	}
	return modelWritten(v, "", false)
}

// modelWritten writes a value; line: what begins a line where it stands.
func modelWritten(v api.Json, line string, pretty bool) string {
	inner, colon := line, ":"
	if pretty {
		inner, colon = line+"  ", ": "
	}
	var parts []string
	for i, item := range v.Items {
		part := modelWritten(item, inner, pretty)
		if v.Kind == api.JObject {
			part = modelQuote(v.Keys[i]) + colon + part
		}
		parts = append(parts, inner+part)
	}
	if len(parts) == 0 {
		line = ""
	}
	all := strings.Join(parts, ",") + line
	switch v.Kind {
	case api.JList:
		return "[" + all + "]"
	case api.JObject:
		return "{" + all + "}"
	case api.JText:
		return modelQuote(v.Text)
	case api.JNumber:
		return v.Text
	}
	return []string{"null", "false", "true"}[v.Kind-1]
}

func modelQuote(text string) string {
	var out strings.Builder
	out.WriteByte('"')
	for i := range len(text) {
		b := text[i]
		if b >= 32 && b != '"' && b != '\\' {
			out.WriteByte(b)
		} else if short := strings.IndexByte("\"\\\b\f\n\r\t", b); short >= 0 {
			out.WriteString(`\` + `"\bfnrt`[short:short+1])
		} else {
			out.WriteString(`\u` + strconv.FormatInt(0x10000+int64(b), 16)[1:])
		}
	}
	out.WriteByte('"')
	return out.String()
}

func modelCanon(v api.Json) api.Json {
	out := api.Json{Kind: v.Kind, Text: v.Text}
	if v.Kind == api.JNumber {
		out.Text, _ = modelNormal(v.Text)
	}
	if v.Kind == api.JObject {
		members := map[string]api.Json{}
		for i, k := range v.Keys {
			members[k] = v.Items[i]
			out.Keys = append(out.Keys, k)
		}
		sort.Strings(out.Keys)
		for _, k := range out.Keys {
			out.Items = append(out.Items, modelCanon(members[k]))
		}
		return out
	}
	for _, item := range v.Items {
		out.Items = append(out.Items, modelCanon(item))
	}
	return out
}

// told is a value with its path.
type told struct {
	path string
	v    api.Json
}

// modelWalk tells all values with their paths, of a value that may be.
func modelWalk(v api.Json, path string) []told {
	all := []told{{path, v}}
	for i, item := range v.Items {
		all = append(all, modelWalk(item, path+"/"+stepTo(v, i))...)
	}
	return all
}

// stepTo tells how the step to an item is written.
func stepTo(v api.Json, i int) string {
	if v.Kind == api.JList {
		return strconv.Itoa(i)
	}
	return strings.NewReplacer("~", "~0", "/", "~1").Replace(v.Keys[i])
}

var pathForm = regexp.MustCompile(`^(/([^~/]|~[01])*)*$`)

// modelGet looks for the one value whose path is written so.
func modelGet(v api.Json, path string) (api.Json, api.Errno) {
	if e := modelCheck(v); e != api.OK {
		return api.Json{}, e
	}
	if !pathForm.MatchString(path) {
		return api.Json{}, api.ErrScrollPath
	}
	for _, t := range modelWalk(v, "") {
		if t.path == path {
			return t.v, api.OK
		}
	}
	return api.Json{}, api.ErrMissing
}

func modelSet(v api.Json, path string, x api.Json) (api.Json, api.Errno) {
	for _, one := range []api.Json{v, x} {
		if e := modelCheck(one); e != api.OK {
			return api.Json{}, e
		}
	}
	if !pathForm.MatchString(path) {
		return api.Json{}, api.ErrScrollPath
	}
	if path == "" {
		return x, api.OK
	}
	cut := strings.LastIndexByte(path, '/')
	last := path[cut+1:]
	holder, e := modelGet(v, path[:cut])
	if e != api.OK || holder.Kind != api.JList && holder.Kind != api.JObject {
		return api.Json{}, api.ErrMissing
	}
	if _, e := modelGet(v, path); e != api.OK && holder.Kind == api.JList && last != "-" && last != strconv.Itoa(len(holder.Items)) {
		return api.Json{}, api.ErrMissing
	}
	out := rebuilt(v, "", path[:cut], func(h api.Json) api.Json {
		for i := range h.Items {
			if stepTo(h, i) == last {
				h.Items[i] = x
				return h
			}
		}
		if h.Kind == api.JObject {
			h.Keys = append(h.Keys, strings.NewReplacer("~0", "~", "~1", "/").Replace(last))
		}
		h.Items = append(h.Items, x)
		return h
	})
	if e := modelCheck(out); e != api.OK {
		return api.Json{}, e
	}
	return out, api.OK
}

func modelCut(v api.Json, path string) (api.Json, api.Errno) {
	if path == "" && modelCheck(v) == api.OK {
		return api.Json{}, api.ErrScrollPath
	}
	if _, e := modelGet(v, path); e != api.OK {
		return api.Json{}, e
	}
	cut := strings.LastIndexByte(path, '/')
	return rebuilt(v, "", path[:cut], func(h api.Json) api.Json {
		left := api.Json{Kind: h.Kind}
		for i := range h.Items {
			if stepTo(h, i) == path[cut+1:] {
				continue
			}
			left.Items = append(left.Items, h.Items[i])
			if h.Kind == api.JObject {
				left.Keys = append(left.Keys, h.Keys[i])
			}
		}
		return left
	}), api.OK
}

// rebuilt gives v in new memory, with what stands at a path changed.
func rebuilt(v api.Json, here, path string, change func(api.Json) api.Json) api.Json {
	out := api.Json{Kind: v.Kind, Text: v.Text, Keys: slices.Clone(v.Keys)}
	for i, item := range v.Items {
		out.Items = append(out.Items, rebuilt(item, here+"/"+stepTo(v, i), path, change))
	}
	if here == path {
		return change(out)
	}
	return out
}

func modelMerge(v, patch api.Json) (api.Json, api.Errno) {
	for _, one := range []api.Json{v, patch} {
		if e := modelCheck(one); e != api.OK {
			return api.Json{}, e
		}
	}
	out := modelLay(v, patch)
	if e := modelCheck(out); e != api.OK {
		return api.Json{}, e
	}
	return out, api.OK
}

// modelLay lays a patch's members over a value's one by one.
func modelLay(v, patch api.Json) api.Json {
	if patch.Kind != api.JObject {
		return patch
	}
	out := api.Json{Kind: api.JObject}
	if v.Kind == api.JObject {
		out.Keys, out.Items = slices.Clone(v.Keys), slices.Clone(v.Items)
	}
	for j, key := range patch.Keys {
		i := slices.Index(out.Keys, key)
		null := patch.Items[j].Kind == api.JNull
		switch {
		case null && i >= 0:
			out.Keys, out.Items = slices.Delete(out.Keys, i, i+1), slices.Delete(out.Items, i, i+1)
		case !null && i >= 0:
			out.Items[i] = modelLay(out.Items[i], patch.Items[j])
		case !null:
			out.Keys = append(out.Keys, key)
			out.Items = append(out.Items, modelLay(api.Json{Kind: api.JNull}, patch.Items[j]))
		}
	}
	return out
}

// equals tells whether two values are equal, field by field; empty lists and nil are.
func equals(a, b api.Json) bool {
	if a.Kind != b.Kind || a.Text != b.Text || len(a.Keys) != len(b.Keys) || len(a.Items) != len(b.Items) {
		return false
	}
	for i := range a.Keys {
		if a.Keys[i] != b.Keys[i] {
			return false
		}
	}
	for i := range a.Items {
		if !equals(a.Items[i], b.Items[i]) {
			return false
		}
	}
	return true
}

func isZero(v api.Json) bool { return v.Kind == 0 && v.Text == "" && v.Items == nil && v.Keys == nil }

// short tells a value for a test's message.
func short(v api.Json) string {
	if modelCheck(v) != api.OK {
		return "(one that may not be)"
	}
	text := modelPrint(v, false)
	if len(text) > 200 {
		text = text[:200] + ".."
	}
	return text
}

// value reads a text in which a test writes a value; by the model.
func value(t testing.TB, text string) api.Json {
	t.Helper()
	v, e, at := modelParse(text)
	if e != api.OK {
		t.Fatalf("a test's own text %q: %d at %d", text, e, at)
	}
	return v
}

// same holds an answer of a value and an error against the model's.
func same(t *testing.T, name string, got api.Json, e api.Errno, want api.Json, why api.Errno) {
	t.Helper()
	if e != why || !equals(got, want) {
		t.Errorf("%s: %s and %d, not %s and %d", name, short(got), e, short(want), why)
	}
	if e != api.OK && !isZero(got) {
		t.Errorf("%s: something beside error %d", name, e)
	}
}

// parses holds Parse of a text against the model.
func parses(t *testing.T, text string) (api.Json, api.Errno) {
	t.Helper()
	want, why, place := modelParse(text)
	got, e, at := scroll.Parse(text)
	if e != why || at != place || !equals(got, want) || e != api.OK && !isZero(got) {
		t.Errorf("Parse(%.200q): %s, %d at %d, not %s, %d at %d", text, short(got), e, at, short(want), why, place)
	}
	return got, e
}

// Random values.

var someKeys = []string{"", "a", "b", "a/b", "~", "~1", "0", "1", "-", "é", "\x00", "\"", "01", "A", "aa", "😀"}

var someTexts = []string{"", "x", "\"\\/\b\f\n\r\t", "\x00\x1f\x7f\u0080", "é ￿ 😀\U0010ffff", "\ufffd", "null", "\u2028<&>"}

var someNumbers = []string{"0", "-0", "1", "-1", "1.0", "10e-1", "100", "1e2", "0.5", "5e-1", "1e20", "1e19", "1e-20", "1e-21", "123456789012345678901", "-0.0E+00", "1E5", "1.5e-999998", "9e999999"}

func randomValue(rnd *rand.Rand, deep int) api.Json {
	kind := 1 + rnd.Intn(7)
	if deep == 0 {
		kind = 1 + rnd.Intn(5)
	}
	v := api.Json{Kind: kind}
	switch kind {
	case api.JNumber:
		v.Text = someNumbers[rnd.Intn(len(someNumbers))]
	case api.JText:
		for range rnd.Intn(3) {
			v.Text += someTexts[rnd.Intn(len(someTexts))]
		}
	case api.JList:
		for range rnd.Intn(4) {
			v.Items = append(v.Items, randomValue(rnd, deep-1))
		}
	case api.JObject:
		for _, i := range rnd.Perm(len(someKeys))[:rnd.Intn(6)] {
			v.Keys = append(v.Keys, someKeys[i])
			v.Items = append(v.Items, randomValue(rnd, deep-1))
		}
	}
	return v
}

// listOf gives a list of so many nulls.
func listOf(n int) api.Json {
	v := api.Json{Kind: api.JList}
	for range n {
		v.Items = append(v.Items, api.Json{Kind: api.JNull})
	}
	return v
}

// nest gives v in so many lists.
func nest(v api.Json, n int) api.Json {
	for range n {
		v = api.Json{Kind: api.JList, Items: []api.Json{v}}
	}
	return v
}
