package scroll

import (
	"strings"
	"unicode/utf8"

	"coffer/api"
)

const (
	highFirst = 0xD800 // from here on the first of two that stand for one letter,
	lowFirst  = 0xDC00 // from here on the second,
	lowLast   = 0xDFFF // up to here
	pairFirst = 0x10000
)

// cursor is a place in a text.
type cursor struct {
	text string
	at   int
}

func (c *cursor) ended() bool { return c.at == len(c.text) }

// next tells the byte at the place; 0 at the end, as nothing that may come begins with that byte.
func (c *cursor) next() byte {
	if c.ended() {
		return 0
	}
	return c.text[c.at]
}

// takes goes on behind b, if it is there.
func (c *cursor) takes(b byte) bool {
	if c.ended() || c.text[c.at] != b {
		return false
	}
	c.at++
	return true
}

// digits goes on behind digits, at most so many.
func (c *cursor) digits(most int) string {
	from := c.at
	for c.at-from < most && c.next() >= '0' && c.next() <= '9' {
		c.at++
	}
	return c.text[from:c.at]
}

// blanks goes on behind blanks.
func (c *cursor) blanks() {
	for c.takes(' ') || c.takes('\t') || c.takes('\n') || c.takes('\r') {
	}
}

// fault is what the reader gives up with.
type fault struct {
	why api.Errno
	at  int
}

// reader reads a value; at a fault it panics with it.
type reader struct {
	cursor
	values int // that have begun
}

func giveUp(why api.Errno, at int) { panic(fault{why: why, at: at}) }

// stop gives up where something else must come.
func (r *reader) stop() {
	r.more()
	giveUp(api.ErrScrollByte, r.at)
}

// more gives up at the text's end.
func (r *reader) more() {
	if r.ended() {
		giveUp(api.ErrScrollEnd, r.at)
	}
}

func (r *reader) must(b byte) {
	if !r.takes(b) {
		r.stop()
	}
}

// whole reads the text: a value and blanks around it.
func (r *reader) whole() api.Json {
	r.blanks()
	v := r.value(0)
	r.blanks()
	if !r.ended() {
		giveUp(api.ErrScrollMore, r.at)
	}
	return v
}

// value reads one that stands in so many lists and objects.
func (r *reader) value(nested int) api.Json {
	first := r.next()
	if !begins(first) {
		r.stop()
	}
	r.values++
	if r.values > api.MaxValues {
		giveUp(api.ErrScrollMany, r.at)
	}
	if (first == '[' || first == '{') && nested >= api.MaxNested {
		giveUp(api.ErrScrollDeep, r.at)
	}
	switch first {
	case 'n':
		return r.word("null", api.JNull)
	case 'f':
		return r.word("false", api.JFalse)
	case 't':
		return r.word("true", api.JTrue)
	case '"':
		return api.Json{Kind: api.JText, Text: r.quoted()}
	case '[':
		return r.list(nested + 1)
	case '{':
		return r.object(nested + 1)
	}
	return r.number()
}

// begins tells whether a value may begin with b.
func begins(b byte) bool {
	switch b {
	case 'n', 'f', 't', '"', '[', '{', '-':
		return true
	}
	return b >= '0' && b <= '9'
}

func (r *reader) word(word string, kind int) api.Json {
	for i := range len(word) {
		r.must(word[i])
	}
	return api.Json{Kind: kind}
}

func (r *reader) number() api.Json {
	from := r.at
	if _, whole := r.numeral(); !whole {
		r.stop()
	}
	text := r.text[from:r.at]
	if _, e := Normal(text); e != api.OK {
		giveUp(e, from)
	}
	return api.Json{Kind: api.JNumber, Text: text}
}

// list reads a list whose items stand in so many.
func (r *reader) list(nested int) api.Json {
	v := api.Json{Kind: api.JList}
	r.must('[')
	r.blanks()
	if r.takes(']') {
		return v
	}
	for {
		v.Items = append(v.Items, r.value(nested))
		r.blanks()
		if r.takes(']') {
			return v
		}
		r.must(',')
		r.blanks()
	}
}

// object reads an object whose members' values stand in so many.
func (r *reader) object(nested int) api.Json {
	v := api.Json{Kind: api.JObject}
	met := make(map[string]struct{})
	r.must('{')
	r.blanks()
	if r.takes('}') {
		return v
	}
	for {
		key := r.key(met)
		r.blanks()
		r.must(':')
		r.blanks()
		add(&v, key, r.value(nested))
		r.blanks()
		if r.takes('}') {
			return v
		}
		r.must(',')
		r.blanks()
	}
}

// key reads one that is not among those that were met, and lays it beside them.
func (r *reader) key(met map[string]struct{}) string {
	from := r.at
	key := r.quoted()
	if _, twice := met[key]; twice {
		giveUp(api.ErrScrollTwice, from)
	}
	met[key] = struct{}{}
	return key
}

// quoted reads a text from its quote to its quote.
func (r *reader) quoted() string {
	var out strings.Builder
	r.must('"')
	for {
		r.more()
		b := r.next()
		switch {
		case b == '"':
			r.at++
			return out.String()
		case b == '\\':
			out.WriteRune(r.escape())
		case b < ' ':
			giveUp(api.ErrScrollText, r.at)
		default:
			out.WriteRune(r.letter())
		}
	}
}

// letter reads one that stands for itself.
func (r *reader) letter() rune {
	letter, size := utf8.DecodeRuneInString(r.text[r.at:])
	if letter == utf8.RuneError && size == 1 {
		giveUp(api.ErrScrollText, r.at)
	}
	r.at += size
	return letter
}

// escape reads one that is written with a backslash.
func (r *reader) escape() rune {
	from := r.at
	r.must('\\')
	r.more()
	b := r.next()
	if b == 'u' {
		r.at++
		return r.joined(from, r.four())
	}
	letter := escaped(b)
	if letter == 0 {
		giveUp(api.ErrScrollText, r.at)
	}
	r.at++
	return letter
}

// escaped tells for what a byte behind a backslash stands; 0 if for nothing.
func escaped(b byte) rune {
	switch b {
	case '"', '\\', '/':
		return rune(b)
	case 'b':
		return '\b'
	case 'f':
		return '\f'
	case 'n':
		return '\n'
	case 'r':
		return '\r'
	case 't':
		return '\t'
	}
	return 0
}

// four reads four hexadecimal digits.
func (r *reader) four() rune {
	n := rune(0)
	for range 4 {
		r.more()
		d := worth(r.next())
		if d < 0 {
			giveUp(api.ErrScrollText, r.at)
		}
		n = n*16 + d
		r.at++
	}
	return n
}

// worth tells a hexadecimal digit's number; -1 of another byte.
func worth(b byte) rune {
	switch {
	case b >= '0' && b <= '9':
		return rune(b - '0')
	case b >= 'a' && b <= 'f':
		return rune(b-'a') + 10
	case b >= 'A' && b <= 'F':
		return rune(b-'A') + 10
	}
	return -1
}

// joined tells the letter of a \u whose backslash is at from; what is one of two reads the other one too, whose own faults come first.
func (r *reader) joined(from int, first rune) rune {
	if first < highFirst || first > lowLast {
		return first
	}
	if first >= lowFirst {
		giveUp(api.ErrScrollText, from)
	}
	for _, b := range [2]byte{'\\', 'u'} {
		r.more()
		if !r.takes(b) {
			giveUp(api.ErrScrollText, from)
		}
	}
	second := r.four()
	if second < lowFirst || second > lowLast {
		giveUp(api.ErrScrollText, from)
	}
	return pairFirst + (first-highFirst)<<10 + (second - lowFirst)
}
