package header

import (
	"bytes"
	"strings"

	"coffer/api"
	"coffer/digest"
)

// The names of the fields of a copy's fixed part.
const (
	magicField = iota
	versionField
	sizeField
	sumField
	seqField
	labelField
	hashField
	saltField
	uuidField
	subsystemField
	startField
	gapField
)

const (
	firstMagic  = "LUKS\xba\xbe"
	secondMagic = "SKUL\xba\xbe"
	hashName    = "sha256"
)

// field is a part of the fixed part; why is the error that tells that it may not be so.
type field struct {
	name int
	at   int
	size int
	why  api.Errno
}

// fields has them in the order in which their errors are told.
var fields = [...]field{
	{name: magicField, at: 0, size: 6, why: api.ErrMagic},
	{name: versionField, at: 6, size: 2, why: api.ErrVersion},
	{name: sizeField, at: 8, size: 8, why: api.ErrHeadSize},
	{name: sumField, at: 448, size: 32, why: api.ErrHeadSum},
	{name: seqField, at: 16, size: 8, why: api.ErrHeadField},
	{name: labelField, at: 24, size: api.MaxLabel + 1, why: api.ErrHeadField},
	{name: hashField, at: 72, size: 32, why: api.ErrHeadField},
	{name: saltField, at: 104, size: api.HeadSalt, why: api.ErrHeadField},
	{name: uuidField, at: 168, size: api.MaxUUID + 1, why: api.ErrHeadField},
	{name: subsystemField, at: 208, size: api.MaxLabel + 1, why: api.ErrHeadField},
	{name: startField, at: 256, size: 8, why: api.ErrHeadField},
	{name: gapField, at: 264, size: 184, why: api.ErrHeadField},
	{name: gapField, at: 480, size: api.HeadFixed - 480, why: api.ErrHeadField},
}

// What the digest is not of: its own field, and the zeros that follow it.
const (
	sumStart = 448
	sumEnd   = 512
)

// of gives the field's bytes of a copy.
func (f field) of(b []byte) []byte { return b[f.at : f.at+f.size] }

// isText tells whether the field is a text with a zero byte behind it.
func (f field) isText() bool {
	return f.name == labelField || f.name == uuidField || f.name == subsystemField
}

// holds tells whether the field begins with these bytes, and has nothing but zeros behind them.
func (f field) holds(b []byte, told string) bool {
	rest, begins := bytes.CutPrefix(f.of(b), []byte(told))
	return begins && len(bytes.Trim(rest, "\x00")) == 0
}

// told gives what stands in the field of that name, without the zeros behind it. The digest is no part of it: it comes last.
func told(name int, c api.HeadCopy) string {
	switch name {
	case magicField:
		if c.Second {
			return secondMagic
		}
		return firstMagic
	case versionField:
		return spell(api.HeadVersion, 2)
	case sizeField:
		return spell(uint64(c.Head), 8)
	case seqField:
		return spell(c.Seq, 8)
	case labelField:
		return c.Label
	case hashField:
		return hashName
	case saltField:
		return c.Salt
	case uuidField:
		return c.UUID
	case subsystemField:
		return c.Subsystem
	case startField:
		return spell(uint64(start(c)), 8)
	}
	return ""
}

// spell gives a number of n bytes, highest first.
func spell(x uint64, n int) string {
	b := make([]byte, n)
	for i := range b {
		b[n-1-i] = byte(x >> (8 * i))
	}
	return string(b)
}

// number undoes spell.
func number(b []byte) uint64 {
	var x uint64
	for _, d := range b {
		x = x<<8 | uint64(d)
	}
	return x
}

// start tells at which byte of the device a copy begins.
func start(c api.HeadCopy) int {
	if c.Second {
		return c.Head
	}
	return 0
}

// twin gives the other copy.
func twin(c api.HeadCopy) api.HeadCopy {
	c.Second = !c.Second
	return c
}

// isHead tells whether a copy can have so many bytes.
func isHead(n uint64) bool {
	return n >= api.MinHead && n <= api.MaxHead && n&(n-1) == 0
}

// isSeq tells whether it can have that number.
func isSeq(n uint64) bool { return n >= 1 && n <= api.MaxSeq }

// places gives the bytes of a device at which a secondary copy can begin: each is the Head of the copy there, too.
func places(yield func(at int) bool) {
	for at := api.MinHead; at <= api.MaxHead; at *= 2 {
		if !yield(at) {
			return
		}
	}
}

// refused tells why a copy cannot be laid down.
func refused(c api.HeadCopy) api.Errno {
	if !isHead(uint64(c.Head)) {
		return api.ErrHeadSize
	}
	if !isSeq(c.Seq) || len(c.Salt) != api.HeadSalt {
		return api.ErrHeadField
	}
	for _, f := range fields {
		if f.isText() && !fits(told(f.name, c), f.size) {
			return f.why
		}
	}
	if !fits(c.Text, c.Head-api.HeadFixed) {
		return api.ErrHeadText
	}
	return api.OK
}

// fits tells whether a text can stand in so many bytes: one at least is left for the zero that ends it.
func fits(text string, room int) bool {
	return len(text) < room && strings.IndexByte(text, 0) < 0
}

// laid gives the bytes of a copy that is not refused.
func laid(c api.HeadCopy) []byte {
	b := make([]byte, c.Head)
	for _, f := range fields {
		copy(f.of(b), told(f.name, c))
	}
	copy(b[api.HeadFixed:], c.Text)
	copy(b[sumStart:sumEnd], sumOf(b))
	return b
}

// sumOf reckons the digest that a copy must name. A copy is never too long for it.
func sumOf(b []byte) []byte {
	sum, _ := digest.Sum(api.Hash256, b[:sumStart], make([]byte, sumEnd-sumStart), b[sumEnd:])
	return sum
}

// textOf gives the text that stands ahead of a room's first zero byte; false, if there is none, or more than zeros behind it.
func textOf(room []byte) (string, bool) {
	end := bytes.IndexByte(room, 0)
	if end < 0 || len(bytes.TrimRight(room, "\x00")) > end {
		return "", false
	}
	return string(room[:end]), true
}

// readFixed reads a copy's fixed part, up to the first field that may not be so. Of an opening alone, which is not the whole copy, the fields ahead of the digest are asked.
func readFixed(b []byte, second, opening bool) (api.HeadCopy, api.Errno) {
	c, why := api.HeadCopy{Second: second}, api.OK
asking:
	for _, f := range fields {
		right, part := true, f.of(b)
		switch f.name {
		case sizeField:
			n := number(part)
			if right = isHead(n) && (opening || uint64(len(b)) == n); right {
				c.Head = int(n)
			}
		case sumField:
			if opening {
				break asking
			}
			right = bytes.Equal(part, sumOf(b))
		case seqField:
			c.Seq = number(part)
			right = isSeq(c.Seq)
		case labelField:
			c.Label, right = textOf(part)
		case saltField:
			c.Salt = string(part)
		case uuidField:
			c.UUID, right = textOf(part)
		case subsystemField:
			c.Subsystem, right = textOf(part)
		default:
			right = f.holds(b, told(f.name, c))
		}
		if !right {
			why = f.why
			break asking
		}
	}
	return c, why
}
