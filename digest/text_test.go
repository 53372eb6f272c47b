package digest_test

import (
	"bytes"
	"encoding/base64"
	"encoding/hex"
	"math/rand"
	"strings"
	"testing"

	"coffer/api"
	"coffer/digest"
)

// reading is what FromHex or FromBase64 should tell of a text.
type reading struct {
	text, want string
	e          api.Errno
	at         int
}

func checkReading(t *testing.T, read func(string) ([]byte, api.Errno, int), c reading) {
	t.Helper()
	if b, e, at := read(c.text); string(b) != c.want || e != c.e || at != c.at {
		t.Errorf("%.40q: %.40q, error %d, place %d; not %.40q, %d, %d", c.text, b, e, at, c.want, c.e, c.at)
	}
}

// Example 5 of the chapter, and its like.
func TestHexExamples(t *testing.T) {
	if s := digest.Hex([]byte{0, 255}); s != "00ff" {
		t.Errorf("Hex: %q", s)
	}
	for _, c := range []reading{
		{"00Ff", "\x00\xff", api.OK, 0},
		{"0g", "", api.ErrHexText, 1},
		{"abc", "", api.ErrHexText, 3},
		{"", "", api.OK, 0},
		{"a", "", api.ErrHexText, 1},
		{"g", "", api.ErrHexText, 0},
		{"00 11", "", api.ErrHexText, 2},
		{"0x11", "", api.ErrHexText, 1},
		{"1122\n", "", api.ErrHexText, 4},
		{"11\x00", "", api.ErrHexText, 2},
		{"abcdefABCDEF0123456789", "\xab\xcd\xef\xab\xcd\xef\x01\x23\x45\x67\x89", api.OK, 0},
		{"0\u00e9", "", api.ErrHexText, 1},
	} {
		checkReading(t, digest.FromHex, c)
	}
}

// P1.8: all pairs of bytes as a text.
func TestHexOfAllBytes(t *testing.T) {
	for x := range 256 {
		for y := range 256 {
			text := string([]byte{byte(x), byte(y)})
			c := reading{text: text, e: api.ErrHexText}
			if b, err := hex.DecodeString(text); err == nil {
				c.want, c.e = string(b), api.OK
			} else if isHex(byte(x)) {
				c.at = 1
			}
			checkReading(t, digest.FromHex, c)
		}
		if s := digest.Hex([]byte{byte(x)}); s != hex.EncodeToString([]byte{byte(x)}) {
			t.Errorf("Hex of %d: %q", x, s)
		}
	}
}

func isHex(c byte) bool { return strings.IndexByte("0123456789abcdefABCDEF", c) >= 0 }

// P1.8, P1.10: the bounds.
func TestHexBounds(t *testing.T) {
	t.Parallel()
	most := some(40, api.MaxTexts/2)
	text := digest.Hex(most)
	if text != hex.EncodeToString(most) {
		t.Errorf("Hex of the most bytes: %d", len(text))
	}
	if s := digest.Hex(make([]byte, api.MaxTexts/2+1)); s != "" {
		t.Errorf("Hex of one more: %d", len(s))
	}
	checkReading(t, digest.FromHex, reading{text, string(most), api.OK, 0})
	checkReading(t, digest.FromHex, reading{text + "0", "", api.ErrLong, 0})
	checkReading(t, digest.FromHex, reading{text + "!!", "", api.ErrLong, 0})
	checkReading(t, digest.FromHex, reading{"!" + text, "", api.ErrLong, 0})
	checkReading(t, digest.FromHex, reading{text[1:], "", api.ErrHexText, api.MaxTexts - 1})
	checkReading(t, digest.FromHex, reading{text[1:] + "!", "", api.ErrHexText, api.MaxTexts - 1})
}

// Example 6 of the chapter, and its like.
func TestBase64Examples(t *testing.T) {
	for text, want := range map[string]string{"": "", "f": "Zg==", "fo": "Zm8=", "foo": "Zm9v", "foob": "Zm9vYg==", "fooba": "Zm9vYmE=", "foobar": "Zm9vYmFy", "\xff\xff\xff": "////", "\xfb\xef\xbe": "++++", "\xff": "/w==", "\xff\xff": "//8="} {
		if s := digest.Base64([]byte(text)); s != want {
			t.Errorf("Base64 of %q: %q", text, s)
		}
		checkReading(t, digest.FromBase64, reading{want, text, api.OK, 0})
	}
	for text, at := range map[string]int{
		"Zg=": 3, "Zh==": 2, "Zg==Zg==": 4, "Z": 1, "Z!": 1, "=Zg=": 0,
		"=": 0, "====": 0, "Z=": 1, "Z===": 1, "Zg": 2, "Zm8": 3, "Zm9=": 3, "Zg=A": 3, "Zm8=Zm8=": 4, "Zm8=\n": 4, "Zm8==": 4, "Zg===": 4,
		"Zm9vZ": 5, "Zm9v=": 4, "Zm9v====": 4, "Zm9vZg=": 7, "Zm9vZ===": 5, "Zm\n9v": 2, "Zm9v\n": 4, " Zg==": 0, "Zg==\r\n": 4, "Zm9-": 3, "Zm9_": 3, "Zg\x00=": 2, "Zg=\xff": 3, "Zm8\xc3\xa9": 3, "A": 1, "AB": 2, "AB=": 2, "AA=": 3,
	} {
		checkReading(t, digest.FromBase64, reading{text, "", api.ErrB64Text, at})
	}
}

// P1.9: bytes of every length, against the library's.
func TestBase64OfEveryLength(t *testing.T) {
	for n := range 200 {
		b := some(int64(n), n)
		text := base64.StdEncoding.EncodeToString(b)
		if s := digest.Base64(b); s != text {
			t.Fatalf("Base64 of %d bytes: %q", n, s)
		}
		checkReading(t, digest.FromBase64, reading{text, string(b), api.OK, 0})
	}
	for x := range 1 << 16 {
		for _, b := range [][]byte{{byte(x)}, {byte(x), byte(x >> 8)}, {byte(x), byte(x >> 8), 0x5a}} {
			if s := digest.Base64(b); s != base64.StdEncoding.EncodeToString(b) {
				t.Fatalf("Base64 of %x: %q", b, s)
			}
		}
	}
}

// P1.9, P1.10: the bounds.
func TestBase64Bounds(t *testing.T) {
	t.Parallel()
	most := some(41, 12582912)
	text := digest.Base64(most)
	if len(text) != api.MaxTexts || text != base64.StdEncoding.EncodeToString(most) {
		t.Errorf("Base64 of the most bytes: %d", len(text))
	}
	if s := digest.Base64(make([]byte, 12582913)); s != "" {
		t.Errorf("Base64 of one more: %d", len(s))
	}
	checkReading(t, digest.FromBase64, reading{text, string(most), api.OK, 0})
	checkReading(t, digest.FromBase64, reading{text + "A", "", api.ErrLong, 0})
	checkReading(t, digest.FromBase64, reading{text + "AAAA", "", api.ErrLong, 0})
	checkReading(t, digest.FromBase64, reading{"!" + text, "", api.ErrLong, 0})
	checkReading(t, digest.FromBase64, reading{text[1:], "", api.ErrB64Text, api.MaxTexts - 1})
	checkReading(t, digest.FromBase64, reading{text[1:] + "!", "", api.ErrB64Text, api.MaxTexts - 1})
}

// right64 tells whether a text is what Base64 writes, by the library's.
func right64(s string) bool {
	b, err := base64.StdEncoding.DecodeString(s)
	return err == nil && base64.StdEncoding.EncodeToString(b) == s
}

// canBegin64 tells whether a right text can begin so: letters behind it may as well be As.
func canBegin64(s string) bool {
	for _, end := range []string{"", "A", "=", "AA", "A=", "==", "AAA", "AA=", "A=="} {
		if right64(s + end) {
			return true
		}
	}
	return false
}

// place64 is P1.10's words: how long the longest beginning is with which a right text can begin.
func place64(s string) int {
	for n := len(s); n > 0; n-- {
		if canBegin64(s[:n]) {
			return n
		}
	}
	return 0
}

func check64(t *testing.T, s string) {
	t.Helper()
	c := reading{text: s}
	if right64(s) {
		b, _ := base64.StdEncoding.DecodeString(s)
		c.want = string(b)
	} else {
		c.e, c.at = api.ErrB64Text, place64(s)
	}
	checkReading(t, digest.FromBase64, c)
}

// P1.10: all short texts of some letters, among them ones whose low bits are zeros or not.
func TestPlacesInShortTexts(t *testing.T) {
	const some = "AgEh=!"
	var all func(s string, left int)
	all = func(s string, left int) {
		check64(t, s)
		if left == 0 {
			return
		}
		for i := range len(some) {
			all(s+some[i:i+1], left-1)
		}
	}
	all("", 5)
}

// P1.9, P1.10: right texts with one byte put in another's place, cut short, or made longer.
func TestPlacesInSpoiltTexts(t *testing.T) {
	r := rand.New(rand.NewSource(42))
	for range 3000 {
		text := []byte(digest.Base64(some(r.Int63(), r.Intn(20))))
		switch r.Intn(4) {
		case 0:
			if len(text) > 0 {
				text[r.Intn(len(text))] = byte(r.Intn(256))
			}
		case 1:
			text = text[:r.Intn(len(text)+1)]
		case 2:
			text = append(text, digest.Base64(some(r.Int63(), r.Intn(4)))...)
		default:
			if len(text) > 0 {
				text[r.Intn(len(text))] = '='
			}
		}
		check64(t, string(text))
	}
	for c := range 256 { // every byte at every place of two groups
		for at := range 8 {
			text := []byte("QUFBQUFB")
			text[at] = byte(c)
			check64(t, string(text))
		}
	}
}

// P1.12
func TestThereAndBack(t *testing.T) {
	r := rand.New(rand.NewSource(43))
	for n := range 300 {
		b := some(r.Int63(), n)
		checkReading(t, digest.FromHex, reading{digest.Hex(b), string(b), api.OK, 0})
		checkReading(t, digest.FromBase64, reading{digest.Base64(b), string(b), api.OK, 0})
		mixed := []byte(digest.Hex(b))
		for i := range mixed {
			if r.Intn(2) == 0 {
				mixed[i] = bytes.ToUpper(mixed[i : i+1])[0]
			}
		}
		back, e, _ := digest.FromHex(string(mixed))
		if e != api.OK || digest.Hex(back) != strings.ToLower(string(mixed)) {
			t.Errorf("Hex of FromHex(%q)", mixed)
		}
		text := base64.StdEncoding.EncodeToString(b)
		back, e, _ = digest.FromBase64(text)
		if e != api.OK || digest.Base64(back) != text {
			t.Errorf("Base64 of FromBase64(%q)", text)
		}
	}
}

// P1.14
func TestTextMemory(t *testing.T) {
	room := some(44, 300)
	b := room[100:200]
	kept := bytes.Clone(room)
	hexed, based := digest.Hex(b), digest.Base64(b)
	if !bytes.Equal(room, kept) {
		t.Fatalf("an argument was changed")
	}
	overwrite(room)
	if hexed != hex.EncodeToString(kept[100:200]) || based != base64.StdEncoding.EncodeToString(kept[100:200]) {
		t.Errorf("a text shares memory with its bytes")
	}
	for _, read := range []func() []byte{
		func() []byte { b, _, _ := digest.FromHex(hexed); return b },
		func() []byte { b, _, _ := digest.FromBase64(based); return b },
	} {
		first := read()
		overwrite(first)
		if !bytes.Equal(read(), kept[100:200]) {
			t.Errorf("answers share memory")
		}
	}
}
