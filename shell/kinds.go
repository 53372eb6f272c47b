package shell

import (
	"strconv"
	"strings"

	"coffer/api"
	"coffer/digest"
)

const (
	mostDigits = 20      // of a number
	mostBits   = 1 << 16 // of a value of bits
)

// value is what an option's text says, in the form that its kind has.
type value struct {
	text   string
	number uint64
	whole  int
	bytes  []byte
	bits   []bool
	wholes []int
	plan   []api.Glitch
}

// reading tells what a text says, and whether it is one of a kind.
type reading func(text string) (value, bool)

// choice is a word and what it means.
type choice struct {
	word  string
	means int
}

func number(least, most uint64) reading {
	return func(text string) (value, bool) {
		n, is := readNumber(text)
		return value{number: n}, is && n >= least && n <= most
	}
}

func whole() reading {
	return func(text string) (value, bool) {
		n, is := readWhole(text)
		return value{whole: n}, is
	}
}

func hex() reading {
	return func(text string) (value, bool) {
		b, e, _ := digest.FromHex(text)
		return value{bytes: b}, e == api.OK
	}
}

func text() reading {
	return func(text string) (value, bool) { return value{text: text}, true }
}

func word() reading {
	return func(text string) (value, bool) { return value{text: text}, isName(text) }
}

func bits(most int) reading {
	return func(text string) (value, bool) {
		read := make([]bool, len(text))
		for i := range len(text) {
			if text[i] != '0' && text[i] != '1' {
				return value{}, false
			}
			read[i] = text[i] == '1'
		}
		return value{bits: read}, len(text) <= most
	}
}

func wholes() reading {
	return func(text string) (value, bool) {
		read, is := parted(text, readWhole)
		return value{wholes: read}, is
	}
}

func plan() reading {
	return func(text string) (value, bool) {
		read, is := parted(text, readGlitch)
		return value{plan: read}, is
	}
}

func oneOf(choices ...choice) reading {
	return func(text string) (value, bool) {
		n, is := readChoice(text, choices)
		return value{whole: n}, is
	}
}

// readNumber reads digits; those that stand for more than 64 bits are none.
func readNumber(text string) (uint64, bool) {
	n, err := strconv.ParseUint(text, 10, 64)
	return n, err == nil && len(text) <= mostDigits
}

// readWhole reads digits, perhaps with a sign ahead, of which + is none.
func readWhole(text string) (int, bool) {
	digits := strings.TrimPrefix(text, "-")
	n, err := strconv.ParseInt(text, 10, 64)
	return int(n), err == nil && digits[0] != '+' && len(digits) <= mostDigits
}

func readChoice(text string, choices []choice) (int, bool) {
	for _, c := range choices {
		if c.word == text {
			return c.means, true
		}
	}
	return 0, false
}

// readGlitch reads OP:KIND, with :N, or :N:AT, behind it.
func readGlitch(text string) (api.Glitch, bool) {
	parts := strings.Split(text, ":")
	if len(parts) < 2 || len(parts) > 4 {
		return api.Glitch{}, false
	}
	parts = append(parts, "0", "0")
	op, isOp := readWhole(parts[0])
	kind, isKind := readChoice(parts[1], glitches())
	n, isN := readWhole(parts[2])
	at, isAt := readNumber(parts[3])
	return api.Glitch{Op: int64(op), Kind: kind, N: n, At: at}, isOp && isKind && isN && isAt
}

func glitches() []choice {
	return []choice{
		{"read", api.GlitchRead},
		{"write", api.GlitchWrite},
		{"part", api.GlitchPart},
		{"flush", api.GlitchFlush},
		{"off", api.GlitchOff},
		{"turn", api.GlitchTurn},
	}
}

// parted reads what commas part; of nothing there is nothing.
func parted[T any](text string, read func(string) (T, bool)) ([]T, bool) {
	if text == "" {
		return nil, true
	}
	var all []T
	for part := range strings.SplitSeq(text, ",") {
		one, is := read(part)
		if !is {
			return nil, false
		}
		all = append(all, one)
	}
	return all, true
}
