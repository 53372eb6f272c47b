package escrow

import (
	"strings"

	"coffer/api"
)

const (
	consonants = "bdfghjklmnprstvz"
	vowels     = "aiou"
	wordSize   = 5 // letters
)

// Words writes bytes as words; an odd one is left out (P11.4).
func Words(b []byte) string {
	var out strings.Builder
	for i := 0; i+1 < len(b); i += 2 {
		if i > 0 {
			out.WriteByte(' ')
		}
		writeWord(&out, number(b[i:]))
	}
	return out.String()
}

// writeWord writes a number's word.
func writeWord(out *strings.Builder, n uint16) {
	out.WriteByte(consonants[n>>12])
	out.WriteByte(vowels[n>>10&3])
	out.WriteByte(consonants[n>>6&15])
	out.WriteByte(vowels[n>>4&3])
	out.WriteByte(consonants[n&15])
}

// readWords gives the bytes of a text's words.
func readWords(text string) ([]byte, api.Errno) {
	if len(text) > api.MaxLine {
		return nil, api.ErrLong
	}
	var out []byte
	for _, word := range strings.FieldsFunc(text, isGap) {
		if len(word) != wordSize {
			return nil, api.ErrEscrowWord
		}
		out = append(out, twoBytes(readWord(word))...)
	}
	return out, api.OK
}

// isGap tells whether a rune stands between words.
func isGap(r rune) bool {
	switch r {
	case ' ', '\t', '\n', '\r', '-':
		return true
	}
	return false
}

// readWord gives the number of a word of five bytes; 0, if it is not made as a word is made.
func readWord(word string) uint16 {
	n := 0
	for i := range wordSize {
		letters := consonants
		if i%2 == 1 {
			letters = vowels
		}
		at := strings.IndexByte(letters, small(word[i]))
		if at < 0 {
			return 0
		}
		n = n*len(letters) + at
	}
	return uint16(n)
}

// small gives the small letter of a capital one. It takes bytes, since the rules of runes have more capitals than there are letters here.
func small(c byte) byte {
	if c >= 'A' && c <= 'Z' {
		return c + ('a' - 'A')
	}
	return c
}

// number gives the number that a list's first two bytes are.
func number(b []byte) uint16 { return uint16(b[0])<<8 | uint16(b[1]) }

// twoBytes undoes number.
func twoBytes(n uint16) []byte { return []byte{byte(n >> 8), byte(n)} }
