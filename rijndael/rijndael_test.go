package rijndael_test

import (
	"crypto/aes"
	"encoding/hex"
	"go/parser"
	"go/token"
	"math/rand"
	"path/filepath"
	"slices"
	"strconv"
	"strings"
	"testing"

	"coffer/api"
	"coffer/rijndael"
)

var sizes = []int{16, 24, 32}

// unhex reads the spaced capitals of the chapter's examples.
func unhex(t *testing.T, s string) []byte {
	t.Helper()
	b, err := hex.DecodeString(strings.ReplaceAll(s, " ", ""))
	if err != nil {
		t.Fatal(err)
	}
	return b
}

func unblock(t *testing.T, s string) api.Block {
	t.Helper()
	return api.Block(unhex(t, s))
}

// upTo gives the bytes 00 01 .. of a list of n.
func upTo(n int) []byte {
	b := make([]byte, n)
	for i := range b {
		b[i] = byte(i)
	}
	return b
}

// some gives n bytes that look random and are the same in every run.
func some(seed int64, n int) []byte {
	b := make([]byte, n)
	rand.New(rand.NewSource(seed)).Read(b)
	return b
}

func mustKey(t *testing.T, key []byte) *rijndael.Key {
	t.Helper()
	k, e := rijndael.New(key)
	if k == nil || e != api.OK {
		t.Fatalf("New of %d bytes: error %d", len(key), e)
	}
	return k
}

// wiped gives a key that was wiped.
func wiped(t *testing.T, key []byte) *rijndael.Key {
	t.Helper()
	k := mustKey(t, key)
	if e := k.Wipe(); e != api.OK {
		t.Fatalf("Wipe: error %d", e)
	}
	return k
}

// overwrite spoils a list, its spare room too: whoever shares its memory shows it.
func overwrite[T byte | uint32](b []T) {
	b = b[:cap(b)]
	for i := range b {
		b[i] ^= 0xa5
	}
}

// slowWords is the schedule as the chapter's words tell it, on lists of bytes.
func slowWords(key []byte) []uint32 {
	nk := len(key) / 4
	var w [][4]byte
	for i := range nk {
		w = append(w, [4]byte(key[4*i:]))
	}
	for i := nk; i < 4*(nk+7); i++ {
		t := w[i-1]
		if i%nk == 0 {
			t = [4]byte{slowS(t[1]), slowS(t[2]), slowS(t[3]), slowS(t[0])}
			x := byte(1)
			for range i/nk - 1 {
				x = slowTimes(x, 2)
			}
			t[0] ^= x
		} else if nk == 8 && i%8 == 4 {
			t = [4]byte{slowS(t[0]), slowS(t[1]), slowS(t[2]), slowS(t[3])}
		}
		for j := range t {
			t[j] ^= w[i-nk][j]
		}
		w = append(w, t)
	}
	out := make([]uint32, len(w))
	for i, b := range w {
		out[i] = uint32(b[0])<<24 | uint32(b[1])<<16 | uint32(b[2])<<8 | uint32(b[3])
	}
	return out
}

// wantBlock is the library's own encryption of a block.
func wantBlock(t *testing.T, key []byte, b api.Block) api.Block {
	t.Helper()
	c, err := aes.NewCipher(key)
	if err != nil {
		t.Fatal(err)
	}
	c.Encrypt(b[:], b[:])
	return b
}

func checkBlock(t *testing.T, k *rijndael.Key, in, out api.Block) {
	t.Helper()
	if got, e := k.Encrypt(in); got != out || e != api.OK {
		t.Errorf("Encrypt(%x): %x, error %d, not %x", in, got, e, out)
	}
	if got, e := k.Decrypt(out); got != in || e != api.OK {
		t.Errorf("Decrypt(%x): %x, error %d, not %x", out, got, e, in)
	}
}

// P2.2
func TestNewOfEveryLength(t *testing.T) {
	for n := range 300 {
		k, e := rijndael.New(make([]byte, n))
		if slices.Contains(sizes, n) {
			if k == nil || e != api.OK {
				t.Errorf("%d bytes: error %d", n, e)
			}
		} else if k != nil || e != api.ErrRijnKey {
			t.Errorf("%d bytes: key %v, error %d", n, k != nil, e)
		}
	}
	for _, n := range []int{1<<8 + 16, 1 << 16, 1<<16 + 16, 1<<24 + 32} {
		if k, e := rijndael.New(make([]byte, n)); k != nil || e != api.ErrRijnKey {
			t.Errorf("%d bytes: key %v, error %d", n, k != nil, e)
		}
	}
	if k, e := rijndael.New(nil); k != nil || e != api.ErrRijnKey {
		t.Errorf("nil: key %v, error %d", k != nil, e)
	}
}

// P2.2
func TestSizeAndRounds(t *testing.T) {
	for i, n := range sizes {
		k := mustKey(t, upTo(n))
		if rounds := 10 + 2*i; k.Size() != n || k.Rounds() != rounds || len(k.Words()) != 4*(rounds+1) {
			t.Errorf("%d bytes: Size %d, Rounds %d, %d Words", n, k.Size(), k.Rounds(), len(k.Words()))
		}
	}
}

// P2.2, the third example and the other keys of FIPS 197, appendix A.
func TestScheduleExamples(t *testing.T) {
	for _, c := range []struct {
		key  string
		at   int
		word uint32
	}{
		{"2B 7E 15 16 28 AE D2 A6 AB F7 15 88 09 CF 4F 3C", 0, 0x2b7e1516},
		{"2B 7E 15 16 28 AE D2 A6 AB F7 15 88 09 CF 4F 3C", 4, 0xa0fafe17},
		{"2B 7E 15 16 28 AE D2 A6 AB F7 15 88 09 CF 4F 3C", 43, 0xb6630ca6},
		{"8E 73 B0 F7 DA 0E 64 52 C8 10 F3 2B 80 90 79 E5 62 F8 EA D2 52 2C 6B 7B", 6, 0xfe0c91f7},
		{"8E 73 B0 F7 DA 0E 64 52 C8 10 F3 2B 80 90 79 E5 62 F8 EA D2 52 2C 6B 7B", 51, 0x01002202},
		{"60 3D EB 10 15 CA 71 BE 2B 73 AE F0 85 7D 77 81 1F 35 2C 07 3B 61 08 D7 2D 98 10 A3 09 14 DF F4", 12, 0xa8b09c1a},
		{"60 3D EB 10 15 CA 71 BE 2B 73 AE F0 85 7D 77 81 1F 35 2C 07 3B 61 08 D7 2D 98 10 A3 09 14 DF F4", 59, 0x706c631e},
	} {
		if w := mustKey(t, unhex(t, c.key)).Words(); w[c.at] != c.word {
			t.Errorf("word %d of %s: %08X, not %08X", c.at, c.key, w[c.at], c.word)
		}
	}
}

// P2.2
func TestScheduleOfManyKeys(t *testing.T) {
	for _, n := range sizes {
		keys := [][]byte{make([]byte, n), slices.Repeat([]byte{0xff}, n)}
		for seed := range 20 {
			keys = append(keys, some(int64(seed), n))
		}
		for _, key := range keys {
			if got, want := mustKey(t, key).Words(), slowWords(key); !slices.Equal(got, want) {
				t.Errorf("key %x: %08x, not %08x", key, got, want)
			}
		}
	}
}

// P2.3, the second example and that of FIPS 197, appendix B.
func TestBlockExamples(t *testing.T) {
	for _, c := range []struct {
		key     []byte
		in, out string
	}{
		{upTo(16), "00112233445566778899AABBCCDDEEFF", "69 C4 E0 D8 6A 7B 04 30 D8 CD B7 80 70 B4 C5 5A"},
		{upTo(24), "00112233445566778899AABBCCDDEEFF", "DD A9 7C A4 86 4C DF E0 6E AF 70 A0 EC 0D 71 91"},
		{upTo(32), "00112233445566778899AABBCCDDEEFF", "8E A2 B7 CA 51 67 45 BF EA FC 49 90 4B 49 60 89"},
		{unhex(t, "2b7e151628aed2a6abf7158809cf4f3c"), "3243f6a8885a308d313198a2e0370734", "3925841d02dc09fbdc118597196a0b32"},
	} {
		checkBlock(t, mustKey(t, c.key), unblock(t, c.in), unblock(t, c.out))
	}
}

// P2.3: keys and blocks of one bit, and many others, against the library's cipher; a key does any number of blocks.
func TestBlocks(t *testing.T) {
	for _, n := range sizes {
		for bit := range 8 * n {
			key := make([]byte, n)
			key[bit/8] = 0x80 >> (bit % 8)
			checkBlock(t, mustKey(t, key), api.Block{}, wantBlock(t, key, api.Block{}))
		}
		key := some(int64(n), n)
		k := mustKey(t, key)
		for bit := range 128 {
			var b api.Block
			b[bit/8] = 0x80 >> (bit % 8)
			checkBlock(t, k, b, wantBlock(t, key, b))
		}
		for seed := range 500 {
			key := some(int64(1000+seed), n)
			b := api.Block(some(int64(2000+seed), 16))
			checkBlock(t, mustKey(t, key), b, wantBlock(t, key, b))
		}
	}
}

// P2.3: Decrypt of any block, not of those alone that Encrypt gave.
func TestDecryptOfAnyBlock(t *testing.T) {
	for _, n := range sizes {
		key := some(3, n)
		k := mustKey(t, key)
		c, _ := aes.NewCipher(key)
		for seed := range 200 {
			b := api.Block(some(int64(seed), 16))
			want := b
			c.Decrypt(want[:], b[:])
			if got, e := k.Decrypt(b); got != want || e != api.OK {
				t.Errorf("Decrypt(%x): %x, error %d, not %x", b, got, e, want)
			}
		}
	}
}

// P2.2, P1: the key's slice is neither changed nor kept.
func TestKeySliceIsNotKept(t *testing.T) {
	for _, n := range sizes {
		key := some(4, n)
		own := slices.Clone(key)
		k := mustKey(t, own)
		if !slices.Equal(own, key) {
			t.Errorf("%d bytes: New changed its argument", n)
		}
		overwrite(own)
		checkBlock(t, k, api.Block{7}, wantBlock(t, key, api.Block{7}))
		if !slices.Equal(k.Words(), slowWords(key)) {
			t.Errorf("%d bytes: the schedule hangs on the slice", n)
		}
		if e := k.Wipe(); e != api.OK || !slices.Equal(own, spoilt(key)) {
			t.Errorf("%d bytes: Wipe reached the slice", n)
		}
	}
}

func spoilt(b []byte) []byte {
	b = slices.Clone(b)
	overwrite(b)
	return b
}

// P1: each answer of Words is memory of its own.
func TestWordsMemory(t *testing.T) {
	key := some(5, 32)
	k := mustKey(t, key)
	one, two := k.Words(), k.Words()
	overwrite(one)
	if want := slowWords(key); !slices.Equal(two, want) || !slices.Equal(k.Words(), want) {
		t.Errorf("Words share memory")
	}
	checkBlock(t, k, api.Block{1}, wantBlock(t, key, api.Block{1}))
	k.Wipe()
	if !slices.Equal(two, slowWords(key)) {
		t.Errorf("Wipe reached an answer")
	}
}

// P1: keys hang on nothing but their bytes: not on each other, not on the order of their making.
func TestKeysAreTheirOwn(t *testing.T) {
	var keys []*rijndael.Key
	var bytes [][]byte
	for seed := range 30 {
		key := some(int64(seed/2), sizes[seed/2%3])
		bytes = append(bytes, key)
		keys = append(keys, mustKey(t, key))
	}
	for i := 0; i < len(keys); i += 2 {
		keys[i].Wipe()
	}
	for i := 1; i < len(keys); i += 2 {
		b := api.Block{byte(i)}
		checkBlock(t, keys[i], b, wantBlock(t, bytes[i], b))
	}
}

// P2.3, P2.4: a nil key.
func TestNilKey(t *testing.T) {
	var k *rijndael.Key
	if k.Size() != 0 || k.Rounds() != 0 || len(k.Words()) != 0 {
		t.Errorf("Size %d, Rounds %d, Words %x", k.Size(), k.Rounds(), k.Words())
	}
	checkRefused(t, k, api.ErrNil)
	if e := k.Wipe(); e != api.ErrNil {
		t.Errorf("Wipe: error %d", e)
	}
}

// checkRefused has all calls of a key that answer an error answer that one, whatever else is wrong with their arguments.
func checkRefused(t *testing.T, k *rijndael.Key, want api.Errno) {
	t.Helper()
	b := api.Block(some(6, 16))
	if got, e := k.Encrypt(b); got != (api.Block{}) || e != want {
		t.Errorf("Encrypt: %x, error %d", got, e)
	}
	if got, e := k.Decrypt(b); got != (api.Block{}) || e != want {
		t.Errorf("Decrypt: %x, error %d", got, e)
	}
	if s, e := k.Stream(b); s != nil || e != want {
		t.Errorf("Stream: %v, error %d", s != nil, e)
	}
	for _, n := range []int{0, 8, 16, 17, 24, 4096, 4104, 4105, 4112, 1 << 20} {
		if got, e := rijndael.Wrap(k, make([]byte, n)); len(got) != 0 || e != want {
			t.Errorf("Wrap of %d bytes: %x, error %d", n, got, e)
		}
		if got, e := rijndael.Unwrap(k, make([]byte, n)); len(got) != 0 || e != want {
			t.Errorf("Unwrap of %d bytes: %x, error %d", n, got, e)
		}
	}
}

// P2.4
func TestWipe(t *testing.T) {
	for _, n := range sizes {
		k := wiped(t, some(7, n))
		for range 2 {
			if k.Size() != 0 || k.Rounds() != 0 || len(k.Words()) != 0 {
				t.Errorf("%d bytes: Size %d, Rounds %d, Words %x", n, k.Size(), k.Rounds(), k.Words())
			}
			checkRefused(t, k, api.ErrWiped)
			if e := k.Wipe(); e != api.ErrWiped {
				t.Errorf("%d bytes: Wipe again: error %d", n, e)
			}
		}
	}
}

// P2.4: what was wrapped under a key that was wiped is unwrapped by another one of the same bytes.
func TestWipeLeavesAnswers(t *testing.T) {
	key, plain := some(8, 24), some(9, 40)
	k := mustKey(t, key)
	sealed, _ := rijndael.Wrap(k, plain)
	k.Wipe()
	if got, e := rijndael.Unwrap(mustKey(t, key), sealed); !slices.Equal(got, plain) || e != api.OK {
		t.Errorf("%x, error %d", got, e)
	}
}

// The tables that a test reckons by itself are those of the standard.
func TestSlowSchedule(t *testing.T) {
	w := slowWords(unhex(t, "2b7e151628aed2a6abf7158809cf4f3c"))
	if len(w) != 44 || w[43] != 0xb6630ca6 {
		t.Errorf("%08x", w)
	}
}

// The layer leans on api alone, and on no package of the library's crypto.
func TestImports(t *testing.T) {
	files, err := filepath.Glob("*.go")
	if err != nil || len(files) == 0 {
		t.Fatal(files, err)
	}
	for _, name := range files {
		if strings.HasSuffix(name, "_test.go") {
			continue
		}
		f, err := parser.ParseFile(token.NewFileSet(), name, nil, parser.ImportsOnly)
		if err != nil {
			t.Fatal(err)
		}
		for _, i := range f.Imports {
			path, _ := strconv.Unquote(i.Path.Value)
			if !slices.Contains([]string{"coffer/api", "math/bits", "slices", "sync"}, path) {
				t.Errorf("%s imports %s", name, path)
			}
		}
	}
}
