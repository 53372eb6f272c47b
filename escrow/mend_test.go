package escrow_test

import (
	"bytes"
	"encoding/binary"
	"fmt"
	"math/rand"
	"slices"
	"strings"
	"testing"

	"coffer/api"
	"coffer/escrow"
)

// sizes are a secret's lengths: both ends, even and odd.
var sizes = []int{1, 2, 3, 16, 31, 32, 33, 62, 63, 64}

// tells asks Mend and Tell of a text: the line, in how many bytes it was wrong, and what the line says.
func tells(t *testing.T, name, text, line string, wrong int) {
	t.Helper()
	got, n, e := escrow.Mend(text)
	if got != line || n != wrong || e != api.OK {
		t.Errorf("%s: Mend: %d wrong, not %d, error %d, or another line: %q", name, n, wrong, e, got)
	}
	row := rowOf(line)
	want := api.Share{Set: binary.BigEndian.Uint16(row), Need: int(row[2]), Index: int(row[3]), Size: int(row[4])}
	if s, e := escrow.Tell(text); s != want || e != api.OK {
		t.Errorf("%s: Tell: %v, not %v, error %d", name, s, want, e)
	}
}

// refuses asks Mend, Tell, Join and Extend of a text that is no share.
func refuses(t *testing.T, name, text string, want api.Errno) {
	t.Helper()
	if line, n, e := escrow.Mend(text); line != "" || n != 0 || e != want {
		t.Errorf("%s: Mend: %q, %d wrong, error %d, not %d", name, line, n, e, want)
	}
	if s, e := escrow.Tell(text); s != (api.Share{}) || e != want {
		t.Errorf("%s: Tell: %v, error %d, not %d", name, s, e, want)
	}
	if b, e := escrow.Join(text); len(b) != 0 || e != want {
		t.Errorf("%s: Join: %x, error %d, not %d", name, b, e, want)
	}
	if line, e := escrow.Extend(1, text); line != "" || e != want {
		t.Errorf("%s: Extend: %q, error %d, not %d", name, line, e, want)
	}
}

// asModel holds what Mend and Tell answer of a text against the model, which is told whether it was mended.
func asModel(t *testing.T, name, text string) bool {
	t.Helper()
	row, wrong, e := modelMend(t, text)
	if e != api.OK {
		refuses(t, name, text, e)
		return false
	}
	tells(t, name, text, modelWords(row), wrong)
	return true
}

// P11.5, P11.6, P11.12: a line in the one form is itself, of all lengths, needs and indices.
func TestMendOneForm(t *testing.T) {
	for size := 1; size <= 64; size++ {
		_, lines := dealt(t, int64(size), size, 1+size%16, 17)
		for _, line := range lines {
			tells(t, fmt.Sprint(size, " bytes"), line, line, 0)
		}
	}
	_, lines := dealt(t, 100, 5, 3, 255)
	for _, line := range lines {
		tells(t, "all indices", line, line, 0)
	}
}

// P11.5: gaps of all kinds, ahead of the words, between and behind them; capital letters.
func TestMendGaps(t *testing.T) {
	r := rand.New(rand.NewSource(1))
	_, lines := dealt(t, 101, 32, 3, 5)
	line := lines[1]
	for _, gap := range []string{" ", "\t", "\n", "\r", "-", "\r\n", " - ", "--", "  ", "-\n-", " \t\n\r-"} {
		text := strings.ReplaceAll(line, " ", gap)
		tells(t, fmt.Sprintf("%q", gap), text, line, 0)
		tells(t, fmt.Sprintf("%q all about", gap), gap+text+gap, line, 0)
		tells(t, fmt.Sprintf("%q in capitals", gap), gap+strings.ToUpper(text)+gap, line, 0)
	}
	for range 300 {
		var text []byte
		for _, word := range strings.Split(line, " ") {
			for range 1 + r.Intn(4) {
				text = append(text, " \t\n\r-"[r.Intn(5)])
			}
			for _, c := range []byte(word) {
				text = append(text, c-byte(32*r.Intn(2)))
			}
		}
		tells(t, fmt.Sprintf("%q", text), string(text), line, 0)
	}
}

// P11.5: of all 256 bytes just five are gaps: another one, between two words, makes one word of eleven bytes of them.
func TestMendOtherGaps(t *testing.T) {
	_, lines := dealt(t, 102, 7, 2, 2)
	for c := range 256 {
		text := strings.Replace(lines[0], " ", string([]byte{byte(c)}), 1)
		if strings.IndexByte(" \t\n\r-", byte(c)) >= 0 {
			tells(t, fmt.Sprint("gap ", c), text, lines[0], 0)
		} else {
			refuses(t, fmt.Sprint("no gap ", c), text, api.ErrEscrowWord)
		}
	}
	for _, gap := range []string{"\u00a0", "\u0085", "\u2003", "\v", "\f", "_", "\u2010", "\x00"} {
		refuses(t, fmt.Sprintf("%q", gap), strings.ReplaceAll(lines[0], " ", gap), api.ErrEscrowWord)
	}
}

// P11.5: one wrong byte, at every place and of every value.
func TestMendOneByte(t *testing.T) {
	t.Parallel()
	for _, size := range []int{1, 2, 64} {
		_, lines := dealt(t, int64(size), size, 2, 3)
		for i := range rowOf(lines[2]) {
			for v := 1; v < 256; v++ {
				row := rowOf(lines[2])
				row[i] ^= byte(v)
				tells(t, fmt.Sprintf("%d bytes: byte %d is %d", size, i, row[i]), modelWords(row), lines[2], 1)
			}
		}
	}
}

// P11.5: two wrong bytes, at every two places.
func TestMendTwoBytes(t *testing.T) {
	t.Parallel()
	r := rand.New(rand.NewSource(2))
	for _, size := range sizes {
		_, lines := dealt(t, int64(size), size, 3, 3)
		length := len(rowOf(lines[0]))
		for k := range length {
			for i := range k {
				tells(t, fmt.Sprintf("%d bytes: bytes %d and %d", size, i, k), changed(r, lines[1], i, k), lines[1], 2)
			}
		}
	}
	_, lines := dealt(t, 103, 1, 1, 1)
	for a := 1; a < 256; a++ {
		for b := 1; b < 256; b++ {
			row := rowOf(lines[0])
			row[3] ^= byte(a)
			row[12] ^= byte(b)
			tells(t, fmt.Sprint("by ", a, ", ", b), modelWords(row), lines[0], 2)
		}
	}
}

// P11.5: one wrong word, at every place; how many of its bytes are wrong.
func TestMendOneWord(t *testing.T) {
	r := rand.New(rand.NewSource(3))
	for _, size := range sizes {
		_, lines := dealt(t, int64(size), size, 4, 4)
		row := rowOf(lines[3])
		for i := 0; i < len(row); i += 2 {
			for range 20 {
				other := bytes.Clone(row)
				copy(other[i:], []byte{byte(r.Intn(256)), byte(r.Intn(256))})
				tells(t, fmt.Sprintf("%d bytes: word %d", size, i/2), modelWords(other), lines[3], distance(row, other))
			}
		}
	}
}

// noWords are of five bytes, and not made as words are made.
func noWords() []string {
	return []string{
		"xxxxx", "?????", "12345", "aaaaa", "bbbbb", "ababa", "bebeb", "babyb", "cabab", "bacab", "babac", "qabab", "wabab", "yabab",
		"[abab", "@abab", "{abab", "`abab", "bab+b", "b!bab", "b_bab", "b\x00bab", "\x02abab", "\x00\x00\x00\x00\x00", "\xff\xff\xff\xff\xff", "baba\x80",
		"ba\u00e1b", "\u00e4\u00f6b", "\u212aab", "ba\u212a", // the last two have a capital k of another alphabet
	}
}

// P11.5: a word that is not made as a word is made is two bytes 0, wherever it stands; it is wrong in as many bytes as are not 0 there.
func TestMendNoWord(t *testing.T) {
	for _, size := range sizes {
		_, lines := dealt(t, int64(size), size, 2, 4)
		words, row := strings.Split(lines[3], " "), rowOf(lines[3])
		for i := range words {
			for _, no := range noWords() {
				if len(no) != 5 {
					t.Fatalf("%q", no)
				}
				text := slices.Clone(words)
				text[i] = no
				zeros := bytes.Clone(row)
				clear(zeros[2*i : 2*i+2])
				tells(t, fmt.Sprintf("%d bytes: word %d is %q", size, i, no), strings.Join(text, "-"), lines[3], distance(row, zeros))
			}
		}
	}
}

// P11.5: every byte in every place of a word: just the letters that may stand there, small and capital, make one.
func TestMendLetters(t *testing.T) {
	share := api.Share{Set: 0xa5c3, Need: 1, Index: 1, Size: 1}
	row := bytesOf(share, append([]byte{9}, modelCheck(share.Set, []byte{9})...))
	words := strings.Split(modelWords(row), " ")
	for place := range 5 {
		for c := range 256 {
			if strings.IndexByte(" \t\n\r-", byte(c)) >= 0 {
				continue
			}
			text := slices.Clone(words)
			text[0] = text[0][:place] + string([]byte{byte(c)}) + text[0][place+1:]
			read, e := modelRead(strings.Join(text, " "))
			expect(t, "read", e, api.OK)
			tells(t, fmt.Sprintf("%q", text[0]), strings.Join(text, " "), modelWords(row), distance(row, read))
		}
	}
}

// P11.5: no words at all in place of two zeros differ in nothing.
func TestMendNoWordForZeros(t *testing.T) {
	lines, e := escrow.Deal(0, make([]byte, 6), 2, 2, make([]byte, 10))
	expect(t, "Deal", e, api.OK)
	words := strings.Split(lines[0], " ")
	for i, w := range words {
		if w == "babab" {
			words[i] = "xxxxx"
		}
	}
	if !strings.Contains(strings.Join(words, " "), "xxxxx") {
		t.Fatal("no zeros in it")
	}
	tells(t, "zeros", strings.Join(words, " "), lines[0], 0)
}

// P11.5, P11.11: three and four wrong bytes are never mended to the line; the answer is the model's.
func TestMendMoreBytes(t *testing.T) {
	t.Parallel()
	r := rand.New(rand.NewSource(4))
	others := 0
	for _, size := range sizes {
		_, lines := dealt(t, int64(size), size, 3, 3)
		length := len(rowOf(lines[0]))
		for i := range 150 {
			text := changed(r, lines[2], r.Perm(length)[:3+i%2]...)
			if line, _, e := escrow.Mend(text); line == lines[2] || e == api.OK && distance(rowOf(line), rowOf(lines[2])) < 5 {
				t.Errorf("%d bytes: %q is mended to %q", size, text, line)
			}
			if asModel(t, fmt.Sprint(size, " bytes, more wrong"), text) {
				others++
			}
		}
	}
	t.Log(others, "were mended to another share")
}

// P11.5: three wrong bytes can be two from another share: it is told, with 2.
func TestMendToAnother(t *testing.T) {
	one := nearest(t)
	row, other := one[0], one[1]
	var apart []int
	for i := range row {
		if row[i] != other[i] {
			apart = append(apart, i)
		}
	}
	for a := range 5 {
		for b := range a {
			text := bytes.Clone(row)
			text[apart[a]], text[apart[b]] = other[apart[a]], other[apart[b]]
			tells(t, "two", modelWords(text), modelWords(row), 2)
			text = bytes.Clone(other)
			text[apart[a]], text[apart[b]] = row[apart[a]], row[apart[b]]
			tells(t, "three", modelWords(text), modelWords(other), 2)
		}
	}
}

// nearest gives two shares' rows that differ in five bytes: one value and the code.
func nearest(t *testing.T) [2][]byte {
	t.Helper()
	share := api.Share{Set: 3, Need: 2, Index: 4, Size: 8}
	values := some(60, 12)
	one := bytesOf(share, values)
	values[5] ^= 1
	two := bytesOf(share, values)
	if distance(one, two) != 5 || !modelIsShare(one) || !modelIsShare(two) {
		t.Fatal("they differ in", distance(one, two))
	}
	return [2][]byte{one, two}
}

// P11.5: texts of MaxLine bytes and of one more, which is told ahead of all else.
func TestMendLongest(t *testing.T) {
	_, lines := dealt(t, 104, 64, 2, 2)
	line := lines[0]
	fill := func(n int, c byte) string { return strings.Repeat(string([]byte{c}), n-len(line)) }
	for _, c := range []byte(" \t\n\r-") {
		tells(t, "at the end", line+fill(1024, c), line, 0)
		tells(t, "at the beginning", fill(1024, c)+line, line, 0)
		tells(t, "in the midst", strings.Replace(line, " ", fill(1025, c), 1), line, 0)
		refuses(t, "at the end", line+fill(1025, c), api.ErrLong)
		refuses(t, "at the beginning", fill(1025, c)+line, api.ErrLong)
		refuses(t, "in the midst", strings.Replace(line, " ", fill(1026, c), 1), api.ErrLong)
	}
	refuses(t, "gaps", strings.Repeat(" ", 1024), api.ErrEscrowShare)
	refuses(t, "more gaps", strings.Repeat(" ", 1025), api.ErrLong)
	refuses(t, "a long word", strings.Repeat("b", 1024), api.ErrEscrowWord)
	refuses(t, "a longer word", strings.Repeat("b", 1025), api.ErrLong)
	refuses(t, "many words", strings.Repeat("babab ", 170)+"    ", api.ErrEscrowShare)
	refuses(t, "many words, one short", strings.Repeat("babab ", 170)+"baba", api.ErrEscrowWord)
	refuses(t, "many words, one too many", strings.Repeat("babab ", 170)+"babab", api.ErrLong)
	refuses(t, "very long", strings.Repeat("babab ", 1<<16), api.ErrLong)
}

// P11.5: words of other lengths, at every place.
func TestMendOtherWords(t *testing.T) {
	_, lines := dealt(t, 105, 9, 2, 2)
	words := strings.Split(lines[1], " ")
	for i := range words {
		for _, w := range []string{"b", "ba", "bab", "baba", "bababa", "bababab", "bababbabab", strings.Repeat("b", 15), words[i] + "a", words[i][:4], words[i][1:], "\u00e4\u00e4", "\u00e4\u00e4\u00e4", "\u20ac\u20ac", "\xff", "\x00", "x"} {
			text := slices.Clone(words)
			text[i] = w
			refuses(t, fmt.Sprintf("word %d is %q", i, w), strings.Join(text, " "), api.ErrEscrowWord)
			refuses(t, fmt.Sprintf("word %d is %q, in no line", i, w), strings.Join(text[:i+1], " "), api.ErrEscrowWord)
		}
	}
	// Of one word another two, or of two words one.
	refuses(t, "cut", strings.Replace(lines[1], "", " ", 3), api.ErrEscrowWord)
	refuses(t, "joined", strings.Replace(lines[1], " ", "", 1), api.ErrEscrowWord)
	refuses(t, "joined whole", strings.ReplaceAll(lines[1], " ", ""), api.ErrEscrowWord)
}

// P11.5: any number of words: a share has 7 to 39 of them, and each share as many as its size asks for.
func TestMendOtherLengths(t *testing.T) {
	for n := range 171 {
		refuses(t, fmt.Sprint(n, " times babab"), strings.Repeat("babab ", n), api.ErrEscrowShare)
	}
	for length := 4; length <= 340; length += 2 {
		for _, size := range []int{1, 2, 9, 63, 64, length - 13, length - 14, length} {
			ahead := make([]byte, max(length-4, 5))
			copy(ahead, []byte{1, 2, 1, 1, byte(size)})
			asModel(t, fmt.Sprintf("%d bytes, of size %d", length, size), modelWords(coded(ahead)[:length]))
		}
	}
	for _, size := range sizes {
		_, lines := dealt(t, int64(size), size, 2, 2)
		words := strings.Split(lines[0], " ")
		for i := range words {
			refuses(t, "one fewer", strings.Join(slices.Delete(slices.Clone(words), i, i+1), " "), api.ErrEscrowShare)
			refuses(t, "one more", strings.Join(slices.Insert(slices.Clone(words), i, "babab"), " "), api.ErrEscrowShare)
		}
		refuses(t, "twice", lines[0]+" "+lines[0], api.ErrEscrowShare)
	}
}

// noShares are rows with a right code that are no share's.
func noShares() map[string][]byte {
	out := map[string][]byte{}
	for _, size := range []int{1, 2, 32, 33, 63, 64} {
		good := bytesOf(api.Share{Set: 0x0102, Need: 2, Index: 3, Size: size}, some(61, size+4))
		with := func(name string, at int, b byte) {
			row := bytes.Clone(good[:len(good)-4])
			row[at] = b
			if !modelIsShare(coded(row)) { // some lengths are right for two sizes
				out[fmt.Sprintf("%d bytes, %s %d", size, name, b)] = coded(row)
			}
		}
		for _, b := range []byte{0, 17, 18, 32, 128, 255} {
			with("need", 2, b)
		}
		with("index", 3, 0)
		for b := range 256 {
			with("size", 4, byte(b))
		}
		if size%2 == 0 {
			for b := 1; b < 256; b++ {
				with("the byte 0 is", size+9, byte(b))
			}
		}
	}
	return out
}

// P11.5: bytes that are no share's, the code of which is right; no row near to them is a share's either.
func TestMendNoShare(t *testing.T) {
	r := rand.New(rand.NewSource(5))
	for name, row := range noShares() {
		if !rightCode(row) {
			t.Fatal(name)
		}
		line := modelWords(row)
		refuses(t, name, line, api.ErrEscrowShare)
		refuses(t, name+", one wrong", changed(r, line, r.Intn(len(row))), api.ErrEscrowShare)
		refuses(t, name+", two wrong", changed(r, line, r.Perm(len(row))[:2]...), api.ErrEscrowShare)
	}
}

// P11.5: what is wrong is a byte of the head: it is put right as any other.
func TestMendHead(t *testing.T) {
	for _, size := range sizes {
		good := bytesOf(api.Share{Set: 0xffff, Need: 16, Index: 255, Size: size}, some(62, size+4))
		for at := range 5 {
			for b := range 256 {
				row := bytes.Clone(good)
				row[at] = byte(b)
				tells(t, fmt.Sprintf("%d bytes, byte %d is %d", size, at, b), modelWords(row), modelWords(good), distance(row, good))
			}
		}
	}
}

// P11.5, P11.6: the edges of what a share may say.
func TestTellEdges(t *testing.T) {
	for _, set := range []uint16{0, 1, 0x00ff, 0x0100, 0xff00, 0xffff} {
		for _, need := range []int{1, 2, 15, 16} {
			for _, index := range []int{1, 2, 127, 128, 254, 255} {
				for _, size := range sizes {
					s := api.Share{Set: set, Need: need, Index: index, Size: size}
					line := modelWords(bytesOf(s, some(63, size+4)))
					if got, e := escrow.Tell(line); got != s || e != api.OK {
						t.Errorf("%v: %v, error %d", s, got, e)
					}
				}
			}
		}
	}
}

// P11.5: any bytes, near to shares and far from them, are what the model says.
func TestMendAny(t *testing.T) {
	r := rand.New(rand.NewSource(6))
	for range 300 {
		size := 1 + r.Intn(64)
		row := bytesOf(api.Share{Set: uint16(r.Int()), Need: 1 + r.Intn(16), Index: 1 + r.Intn(255), Size: size}, some(r.Int63(), size+4))
		for range r.Intn(4) {
			row[r.Intn(len(row))] ^= byte(r.Intn(256))
		}
		asModel(t, "near", modelWords(row))
		asModel(t, "any bytes", modelWords(some(r.Int63(), 14+2*r.Intn(33))))
		text := []byte(modelWords(row))
		for range 1 + r.Intn(4) {
			text[r.Intn(len(text))] = byte(r.Intn(256))
		}
		asModel(t, "any letters", string(text))
		asModel(t, "no text", string(some(r.Int63(), r.Intn(300))))
	}
}

// FuzzMend: what any text is answered is what the model says, and what is mended is in the one form.
func FuzzMend(f *testing.F) {
	for _, line := range elsewhere {
		f.Add(line)
		f.Add(strings.ToUpper(line) + "-")
		f.Add("xxxxx" + line[5:])
	}
	f.Add("")
	f.Add("babab")
	f.Fuzz(func(t *testing.T, text string) {
		asModel(t, "fuzz", text)
	})
}
