package digest

import (
	"strings"

	"coffer/api"
)

const (
	hexDigits = "0123456789abcdef"
	letters   = "ABCDEFGHIJKLMNOPQRSTUVWXYZabcdefghijklmnopqrstuvwxyz0123456789+/"
)

// Hex writes bytes in hexadecimal digits.
func Hex(b []byte) string {
	if len(b) > api.MaxTexts/2 {
		return ""
	}
	out := make([]byte, 0, 2*len(b))
	for _, x := range b {
		out = append(out, hexDigits[x>>4], hexDigits[x&15])
	}
	return string(out)
}

// FromHex reads them; the place of the first fault.
func FromHex(s string) ([]byte, api.Errno, int) {
	if len(s) > api.MaxTexts {
		return nil, api.ErrLong, 0
	}
	for i := range len(s) {
		if hexValue(s[i]) < 0 {
			return nil, api.ErrHexText, i
		}
	}
	if len(s)%2 != 0 {
		return nil, api.ErrHexText, len(s)
	}
	out := make([]byte, len(s)/2)
	for i := range out {
		out[i] = byte(hexValue(s[2*i])<<4 | hexValue(s[2*i+1]))
	}
	return out, api.OK, 0
}

// hexValue tells what a digit stands for; -1: it is none.
func hexValue(c byte) int {
	switch {
	case '0' <= c && c <= '9':
		return int(c - '0')
	case 'a' <= c && c <= 'f':
		return int(c-'a') + 10
	case 'A' <= c && c <= 'F':
		return int(c-'A') + 10
	}
	return -1
}

// Base64 writes bytes in base64.
func Base64(b []byte) string {
	if len(b) > 3*(api.MaxTexts/4) {
		return ""
	}
	out := make([]byte, 0, (len(b)+2)/3*4)
	for ; len(b) >= 3; b = b[3:] {
		v := uint(b[0])<<16 | uint(b[1])<<8 | uint(b[2])
		out = append(out, letters[v>>18], letters[v>>12&63], letters[v>>6&63], letters[v&63])
	}
	switch len(b) {
	case 1:
		out = append(out, letters[b[0]>>2], letters[(b[0]&3)<<4], '=', '=')
	case 2:
		out = append(out, letters[b[0]>>2], letters[(b[0]&3)<<4|b[1]>>4], letters[(b[1]&15)<<2], '=')
	}
	return string(out)
}

// FromBase64 reads it; the place of the first fault.
func FromBase64(s string) ([]byte, api.Errno, int) {
	if len(s) > api.MaxTexts {
		return nil, api.ErrLong, 0
	}
	for i := range len(s) {
		if !mayFollow(s, i) {
			return nil, api.ErrB64Text, i
		}
	}
	if len(s)%4 != 0 {
		return nil, api.ErrB64Text, len(s)
	}
	out := make([]byte, 0, len(s)/4*3)
	for i := 0; i < len(s); i += 4 {
		out = appendQuad(out, s[i:i+4])
	}
	return out, api.OK, 0
}

// mayFollow tells whether a right text can begin with s up to and with byte i, if one can begin with s up to it.
func mayFollow(s string, i int) bool {
	letter := letterValue(s[i]) >= 0
	if i == 0 {
		return letter
	}
	ahead := letterValue(s[i-1]) // -1: s[i-1] is a filler
	switch i % 4 {
	case 2:
		return letter || s[i] == '=' && ahead&15 == 0
	case 3:
		if ahead < 0 {
			return s[i] == '='
		}
		return letter || s[i] == '=' && ahead&3 == 0
	}
	return letter && ahead >= 0
}

// appendQuad adds the bytes of four letters, of which the last ones may be fillers.
func appendQuad(out []byte, quad string) []byte {
	var v int
	for i := range len(quad) {
		v = v<<6 | max(letterValue(quad[i]), 0)
	}
	out = append(out, byte(v>>16))
	if quad[2] != '=' {
		out = append(out, byte(v>>8))
	}
	if quad[3] != '=' {
		out = append(out, byte(v))
	}
	return out
}

// letterValue tells what a letter stands for; -1: it is none.
func letterValue(c byte) int {
	return strings.IndexByte(letters, c)
}
