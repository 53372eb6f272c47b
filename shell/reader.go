package shell

import (
	"iter"
	"strings"

	"coffer/api"
)

// reader goes through a line byte by byte; where no line goes on so, it panics with the place.
type reader struct {
	line string
	at   int // bytes that were taken
}

// fault is the place that the reader gives up at.
type fault struct {
	at int
}

// field is a part of a line: a word alone, or an option's key and value.
type field struct {
	word   string
	option bool
	value  string
}

// stop gives up at the next byte, or behind the line's end.
func (r *reader) stop() { panic(fault{at: r.at + 1}) }

func (r *reader) ended() bool { return r.at == len(r.line) }

// next tells the byte that comes; 0 at the end, as that byte may stand nowhere either.
func (r *reader) next() byte {
	if r.ended() {
		return 0
	}
	return r.line[r.at]
}

// takes goes on behind b, if it comes.
func (r *reader) takes(b byte) bool {
	if r.next() != b {
		return false
	}
	r.at++
	return true
}

// read reads the line; the place of its fault, 0 if it has none.
func (r *reader) read() (said api.ShellLine, at int) {
	defer func() {
		if f, is := recover().(fault); is {
			said, at = api.ShellLine{}, f.at
		}
	}()
	for number, f := range r.fields() {
		switch {
		case number == 0:
			said.Command = f.word
		case f.option:
			said.Options = append(said.Options, api.ShellOption{Key: f.word, Value: f.value})
		default:
			said.Name = f.word
		}
	}
	return said, 0
}

// fields gives the line's fields up to its comment, each with its number from 0 on.
func (r *reader) fields() iter.Seq2[int, field] {
	return func(yield func(int, field) bool) {
		for number := 0; ; number++ {
			r.blanks()
			r.comment()
			if r.ended() || !yield(number, r.field(number)) {
				return
			}
		}
	}
}

func (r *reader) blanks() {
	for r.takes(' ') || r.takes('\t') {
	}
}

// comment goes to the line's end, if one begins here.
func (r *reader) comment() {
	if r.next() != '#' {
		return
	}
	for mayStand(r.next()) {
		r.at++
	}
	if !r.ended() {
		r.stop()
	}
}

// field reads one: the first is the command, the second may be the name, all others are options.
func (r *reader) field(number int) field {
	f := field{word: r.word(number == 1)}
	switch {
	case number > 0 && isLetters(f.word) && r.takes('='):
		f.option, f.value = true, r.value()
	case number > 1:
		r.stop()
	}
	if !r.ended() && r.next() != ' ' && r.next() != '\t' {
		r.stop()
	}
	return f
}

// word reads a command, a key, or what may become a name. None is longer than a name.
func (r *reader) word(named bool) string {
	from := r.at
	for isLetter(r.next()) || named && r.at > from && isMark(r.next()) {
		if r.at-from == api.MaxShellName {
			r.stop()
		}
		r.at++
	}
	if r.at == from {
		r.stop()
	}
	return strings.Clone(r.line[from:r.at])
}

// value reads what stands behind a key.
func (r *reader) value() string {
	if r.takes('"') {
		return r.quoted()
	}
	from := r.at
	for r.next() > ' ' && r.next() <= '~' {
		r.at++
	}
	return strings.Clone(r.line[from:r.at])
}

// quoted reads a text up to its closing quote.
func (r *reader) quoted() string {
	var text []byte
	for !r.takes('"') {
		if !mayStand(r.next()) {
			r.stop()
		}
		if r.takes('\\') {
			text = append(text, r.escaped())
			continue
		}
		text = append(text, r.next())
		r.at++
	}
	return string(text)
}

// escaped reads the byte that stands behind a backslash.
func (r *reader) escaped() byte {
	switch {
	case r.takes('"'):
		return '"'
	case r.takes('\\'):
		return '\\'
	case !r.takes('x'):
		r.stop()
	}
	high := r.digit()
	return high<<4 | r.digit()
}

// digit reads a hexadecimal digit.
func (r *reader) digit() byte {
	b := r.next()
	var n byte
	switch {
	case b >= '0' && b <= '9':
		n = b - '0'
	case b >= 'a' && b <= 'f':
		n = b - 'a' + 10
	case b >= 'A' && b <= 'F':
		n = b - 'A' + 10
	default:
		r.stop()
	}
	r.at++
	return n
}

// mayStand tells whether a byte may stand anywhere in a line.
func mayStand(b byte) bool { return b == '\t' || b >= ' ' && b <= '~' }

func isLetter(b byte) bool { return b >= 'a' && b <= 'z' }

// isMark tells whether a byte may stand in a name behind its first letter, beside letters.
func isMark(b byte) bool { return b >= '0' && b <= '9' || b == '_' }

func isLetters(word string) bool {
	for i := range len(word) {
		if !isLetter(word[i]) {
			return false
		}
	}
	return true
}

// isName tells whether a text may be a thing's name.
func isName(text string) bool {
	if text == "" || len(text) > api.MaxShellName || !isLetter(text[0]) {
		return false
	}
	for i := range len(text) {
		if !isLetter(text[i]) && !isMark(text[i]) {
			return false
		}
	}
	return true
}
