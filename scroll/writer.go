package scroll

import (
	"strings"

	"coffer/api"
)

const hexDigits = "0123456789abcdef"

// writer writes values that may be.
type writer struct {
	out   strings.Builder
	lines bool
}

// full tells that there is more than may be: what follows need not be written.
func (w *writer) full() bool { return w.out.Len() > api.MaxScroll }

func (w *writer) told() (string, api.Errno) {
	if w.full() {
		return "", api.ErrLong
	}
	return w.out.String(), api.OK
}

func (w *writer) put(part string) {
	if !w.full() {
		w.out.WriteString(part)
	}
}

// line begins another line in so many lists and objects, if there are lines.
func (w *writer) line(open int) {
	if w.lines {
		w.put("\n")
		w.put(strings.Repeat("  ", open))
	}
}

func (w *writer) value(v api.Json, open int) {
	switch v.Kind {
	case api.JNull:
		w.put("null")
	case api.JFalse:
		w.put("false")
	case api.JTrue:
		w.put("true")
	case api.JNumber:
		w.put(v.Text)
	case api.JText:
		w.quote(v.Text)
	case api.JList:
		w.put("[")
		w.items(v, open)
		w.put("]")
	case api.JObject:
		w.put("{")
		w.items(v, open)
		w.put("}")
	}
}

// items writes what stands between the brackets or braces.
func (w *writer) items(v api.Json, open int) {
	for i, item := range v.Items {
		if i > 0 {
			w.put(",")
		}
		w.line(open + 1)
		if v.Kind == api.JObject {
			w.key(v.Keys[i])
		}
		w.value(item, open+1)
	}
	if len(v.Items) > 0 {
		w.line(open)
	}
}

func (w *writer) key(key string) {
	w.quote(key)
	w.put(":")
	if w.lines {
		w.put(" ")
	}
}

func (w *writer) quote(text string) {
	w.put(`"`)
	for _, letter := range text {
		if w.full() {
			break
		}
		w.letter(letter)
	}
	w.put(`"`)
}

func (w *writer) letter(letter rune) {
	switch letter {
	case '"':
		w.put(`\"`)
	case '\\':
		w.put(`\\`)
	case '\b':
		w.put(`\b`)
	case '\f':
		w.put(`\f`)
	case '\n':
		w.put(`\n`)
	case '\r':
		w.put(`\r`)
	case '\t':
		w.put(`\t`)
	default:
		w.plain(letter)
	}
}

// plain writes a letter as it is, or by its number if it is below 32.
func (w *writer) plain(letter rune) {
	if letter >= ' ' {
		w.out.WriteRune(letter)
		return
	}
	w.put(`\u00`)
	w.out.WriteByte(hexDigits[letter>>4])
	w.out.WriteByte(hexDigits[letter&15])
}
