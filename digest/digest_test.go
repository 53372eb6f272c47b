package digest_test

import (
	"bytes"
	"crypto/sha256"
	"crypto/sha512"
	"encoding/hex"
	"go/parser"
	"go/token"
	"hash"
	"math"
	"math/rand"
	"path/filepath"
	"slices"
	"strconv"
	"strings"
	"sync"
	"testing"

	"coffer/api"
	"coffer/digest"
)

var hashes = []int{api.Hash224, api.Hash256, api.Hash384, api.Hash512}

// wrongHashes are numbers of no digest.
var wrongHashes = []int{0, 1, -1, 28, 32, 160, 223, 225, 255, 257, 383, 385, 511, 513, 1024, -256, -512, math.MaxInt, math.MinInt}

// newHash begins the library's own digest, which the layer's is held against.
func newHash(bits int) func() hash.Hash {
	switch bits {
	case 224:
		return sha256.New224
	case 256:
		return sha256.New
	case 384:
		return sha512.New384
	}
	return sha512.New
}

func wantSum(bits int, parts ...[]byte) []byte {
	h := newHash(bits)()
	for _, p := range parts {
		h.Write(p)
	}
	return h.Sum(nil)
}

// some gives n bytes that look random and are the same in every run.
func some(seed int64, n int) []byte {
	b := make([]byte, n)
	rand.New(rand.NewSource(seed)).Read(b)
	return b
}

// unhex reads the spaced capitals of the chapter's examples.
func unhex(t *testing.T, s string) []byte {
	t.Helper()
	b, err := hex.DecodeString(strings.ReplaceAll(s, " ", ""))
	if err != nil {
		t.Fatal(err)
	}
	return b
}

func mustNew(t *testing.T, bits int) *digest.Stream {
	t.Helper()
	s, e := digest.New(bits)
	if s == nil || e != api.OK {
		t.Fatalf("New(%d): error %d", bits, e)
	}
	return s
}

// overwrite spoils a list, its spare room too: whoever shares its memory shows it.
func overwrite(b []byte) {
	b = b[:cap(b)]
	for i := range b {
		b[i] ^= 0xa5
	}
}

// P1.1
func TestSizeAndBlock(t *testing.T) {
	for _, c := range [][3]int{{224, 28, 64}, {256, 32, 64}, {384, 48, 128}, {512, 64, 128}} {
		if s, b := digest.Size(c[0]), digest.Block(c[0]); s != c[1] || b != c[2] {
			t.Errorf("%d: size %d, block %d", c[0], s, b)
		}
	}
	for _, h := range wrongHashes {
		if s, b := digest.Size(h), digest.Block(h); s != 0 || b != 0 {
			t.Errorf("%d: size %d, block %d", h, s, b)
		}
	}
}

// Example 1 of the chapter, and vectors of FIPS 180-4.
func TestVectors(t *testing.T) {
	for _, c := range []struct {
		bits       int
		text, want string
	}{
		{224, "", "D14A028C 2A3A2BC9 476102BB 288234C4 15A2B01F 828EA62A C5B3E42F"},
		{224, "abc", "23097D22 3405D822 8642A477 BDA255B3 2AADBCE4 BDA0B3F7 E36C9DA7"},
		{256, "", "E3B0C442 98FC1C14 9AFBF4C8 996FB924 27AE41E4 649B934C A495991B 7852B855"},
		{256, "abc", "BA7816BF 8F01CFEA 414140DE 5DAE2223 B00361A3 96177A9C B410FF61 F20015AD"},
		{384, "", "38B060A751AC9638 4CD9327EB1B1E36A 21FDB71114BE0743 4C0CC7BF63F6E1DA 274EDEBFE76F65FB D51AD2F14898B95B"},
		{384, "abc", "CB00753F45A35E8B B5A03D699AC65007 272C32AB0EDED163 1A8B605A43FF5BED 8086072BA1E7CC23 58BAECA134C825A7"},
		{512, "", "CF83E1357EEFB8BD F1542850D66D8007 D620E4050B5715DC 83F4A921D36CE9CE 47D0D13C5D85F2B0 FF8318D2877EEC2F 63B931BD47417A81 A538327AF927DA3E"},
		{512, "abc", "DDAF35A193617ABA CC417349AE204131 12E6FA4E89A97EA2 0A9EEEE64B55D39A 2192992A274FC1A8 36BA3C23A3FEEBBD 454D4423643CE80E 2A9AC94FA54CA49F"},
	} {
		if b, e := digest.Sum(c.bits, []byte(c.text)); e != api.OK || !bytes.Equal(b, unhex(t, c.want)) {
			t.Errorf("Sum(%d, %q): %x, %d", c.bits, c.text, b, e)
		}
	}
	if b, e := digest.Sum(255, []byte("abc")); len(b) != 0 || e != api.ErrHash {
		t.Errorf("Sum(255): %x, %d", b, e)
	}
}

// P1.4: every place in a block where the bytes may end, of two blocks and more.
func TestSumOfEveryLength(t *testing.T) {
	data := some(1, 400)
	for _, bits := range hashes {
		for n := range len(data) + 1 {
			if b, e := digest.Sum(bits, data[:n]); e != api.OK || !bytes.Equal(b, wantSum(bits, data[:n])) {
				t.Fatalf("Sum(%d) of %d bytes: %x, %d", bits, n, b, e)
			}
		}
	}
}

// P1.4: parts count as one list; there may be none.
func TestSumOfParts(t *testing.T) {
	for _, bits := range hashes {
		empty := wantSum(bits)
		for _, parts := range [][][]byte{nil, {}, {nil}, {nil, {}, nil}} {
			if b, e := digest.Sum(bits, parts...); e != api.OK || !bytes.Equal(b, empty) {
				t.Errorf("Sum(%d) of no bytes in %d parts: %x, %d", bits, len(parts), b, e)
			}
		}
		parts := [][]byte{some(2, 63), nil, some(3, 1), some(4, 129), {}, some(5, 300), some(6, 7)}
		if b, e := digest.Sum(bits, parts...); e != api.OK || !bytes.Equal(b, wantSum(bits, parts...)) {
			t.Errorf("Sum(%d) of parts: %x, %d", bits, b, e)
		}
	}
}

// P1.4: the bound, and which error is named first.
func TestSumBound(t *testing.T) {
	t.Parallel()
	most := make([]byte, api.MaxFed)
	for _, bits := range hashes {
		if b, e := digest.Sum(bits, most); e != api.OK || !bytes.Equal(b, wantSum(bits, most)) {
			t.Errorf("Sum(%d) of MaxFed bytes: %x, %d", bits, b, e)
		}
		for _, parts := range [][][]byte{{most, {0}}, {{0}, most}, {make([]byte, api.MaxFed+1)}, {most[:api.MaxFed/2], most[:api.MaxFed/2], {0}}, {most, most, most}} {
			if b, e := digest.Sum(bits, parts...); len(b) != 0 || e != api.ErrLong {
				t.Errorf("Sum(%d) of more than MaxFed: %x, %d", bits, b, e)
			}
		}
	}
	for _, bits := range wrongHashes {
		if b, e := digest.Sum(bits, most, most); len(b) != 0 || e != api.ErrHash {
			t.Errorf("Sum(%d) of more than MaxFed: %x, %d", bits, b, e)
		}
	}
}

// P1.2: what a new stream tells, and wrong numbers.
func TestNew(t *testing.T) {
	for _, bits := range hashes {
		s := mustNew(t, bits)
		if s.Hash() != bits || s.Size() != digest.Size(bits) || s.Block() != digest.Block(bits) || s.Count() != 0 || !bytes.Equal(s.Sum(), wantSum(bits)) {
			t.Errorf("New(%d): %d, %d, %d, %d, %x", bits, s.Hash(), s.Size(), s.Block(), s.Count(), s.Sum())
		}
	}
	for _, bits := range wrongHashes {
		if s, e := digest.New(bits); s != nil || e != api.ErrHash {
			t.Errorf("New(%d): %v, %d", bits, s, e)
		}
	}
}

// Of a nil one.
func TestNilStream(t *testing.T) {
	var s *digest.Stream
	if s.Hash() != 0 || s.Size() != 0 || s.Block() != 0 || s.Count() != 0 {
		t.Errorf("numbers of a nil stream")
	}
	if s.Write() != api.ErrNil || s.Write([]byte("a")) != api.ErrNil || s.Write(make([]byte, api.MaxFed+1)) != api.ErrNil || s.Reset() != api.ErrNil {
		t.Errorf("errors of a nil stream")
	}
	if len(s.Sum()) != 0 || s.Copy() != nil {
		t.Errorf("Sum or Copy of a nil stream")
	}
}

// P1.2, P1.11: any cuts into parts and calls, Sums between.
func TestCuts(t *testing.T) {
	data := some(7, 1000)
	r := rand.New(rand.NewSource(8))
	for _, bits := range hashes {
		for range 60 {
			s := mustNew(t, bits)
			n := 0
			for n < len(data) {
				var parts [][]byte
				for range r.Intn(4) {
					m := min(n+r.Intn(150), len(data))
					parts = append(parts, bytes.Clone(data[n:m]))
					n = m
				}
				if e := s.Write(parts...); e != api.OK {
					t.Fatalf("Write: %d", e)
				}
				for _, p := range parts { // what was handed in is not kept
					overwrite(p)
				}
				if s.Count() != uint64(n) {
					t.Fatalf("Count: %d for %d", s.Count(), n)
				}
				if r.Intn(3) == 0 && !bytes.Equal(s.Sum(), wantSum(bits, data[:n])) {
					t.Fatalf("%d: Sum behind %d bytes", bits, n)
				}
			}
			if !bytes.Equal(s.Sum(), wantSum(bits, data)) || !bytes.Equal(s.Sum(), wantSum(bits, data)) {
				t.Fatalf("%d: Sum at the end", bits)
			}
		}
	}
}

// P1.11: two calls that end at any two places of two blocks, a Sum between.
func TestTwoCuts(t *testing.T) {
	data := some(9, 257)
	for _, bits := range hashes {
		want := wantSum(bits, data)
		for i := range len(data) + 1 {
			s := mustNew(t, bits)
			s.Write(data[:i])
			s.Sum()
			s.Write()
			s.Write(data[i:])
			if !bytes.Equal(s.Sum(), want) {
				t.Fatalf("%d: cut at %d", bits, i)
			}
		}
	}
}

// P1.2: a write that is too long takes nothing.
func TestStreamBound(t *testing.T) {
	t.Parallel()
	most := make([]byte, api.MaxFed)
	for _, bits := range hashes {
		s := mustNew(t, bits)
		if s.Write(most, []byte{1}) != api.ErrLong || s.Count() != 0 || !bytes.Equal(s.Sum(), wantSum(bits)) {
			t.Errorf("%d: a first write that is too long", bits)
		}
		if s.Write(most[1:]) != api.OK || s.Count() != api.MaxFed-1 {
			t.Errorf("%d: one less than MaxFed", bits)
		}
		want := wantSum(bits, most[1:])
		for _, parts := range [][][]byte{{{1, 2}}, {{1}, {2}}, {{1}, most}, {most}, {nil, {1}, nil, {2}}} {
			if s.Write(parts...) != api.ErrLong || s.Count() != api.MaxFed-1 {
				t.Errorf("%d: more than MaxFed", bits)
			}
		}
		if !bytes.Equal(s.Sum(), want) {
			t.Errorf("%d: a refused write has left something", bits)
		}
		if s.Write(nil, []byte{0}, nil) != api.OK || s.Count() != api.MaxFed || s.Write() != api.OK || s.Write(nil) != api.OK {
			t.Errorf("%d: just MaxFed", bits)
		}
		if s.Write([]byte{0}) != api.ErrLong || !bytes.Equal(s.Sum(), wantSum(bits, most)) {
			t.Errorf("%d: behind MaxFed", bits)
		}
		if s.Reset() != api.OK || s.Count() != 0 || s.Write([]byte("abc")) != api.OK || !bytes.Equal(s.Sum(), wantSum(bits, []byte("abc"))) {
			t.Errorf("%d: Reset of a full one", bits)
		}
	}
}

// P1.2: Reset at any place of a block.
func TestReset(t *testing.T) {
	data := some(10, 200)
	for _, bits := range hashes {
		s := mustNew(t, bits)
		for n := range data {
			s.Write(data[:n])
			if s.Reset() != api.OK || s.Count() != 0 || s.Hash() != bits || !bytes.Equal(s.Sum(), wantSum(bits)) {
				t.Fatalf("%d: Reset behind %d bytes", bits, n)
			}
		}
	}
}

// P1.2: a copy was fed the same, and has nothing in common from then on.
func TestCopy(t *testing.T) {
	data := some(11, 400)
	for _, bits := range hashes {
		for _, n := range []int{0, 1, 63, 64, 65, 127, 128, 129, 200} {
			s := mustNew(t, bits)
			s.Write(data[:n])
			c := s.Copy()
			if c == s || c.Hash() != bits || c.Size() != s.Size() || c.Block() != s.Block() || c.Count() != uint64(n) || !bytes.Equal(c.Sum(), wantSum(bits, data[:n])) {
				t.Fatalf("%d: Copy behind %d bytes", bits, n)
			}
			s.Write(data[:50])
			c.Write(data[n:])
			if !bytes.Equal(s.Sum(), wantSum(bits, data[:n], data[:50])) || !bytes.Equal(c.Sum(), wantSum(bits, data)) {
				t.Fatalf("%d: Copy behind %d bytes has something in common", bits, n)
			}
			s.Reset()
			if c.Count() != uint64(len(data)) || !bytes.Equal(c.Sum(), wantSum(bits, data)) {
				t.Fatalf("%d: Reset reaches a copy", bits)
			}
		}
	}
}

// P1.14: nothing that is handed in changes, nothing that is answered is shared.
func TestStreamMemory(t *testing.T) {
	for _, bits := range hashes {
		room := some(12, 300)
		part := room[50:200]
		parts := [][]byte{part, nil, part[:10]}
		kept, keptParts := bytes.Clone(room), slices.Clone(parts)
		s := mustNew(t, bits)
		s.Write(parts...)
		one, e := digest.Sum(bits, parts...)
		if e != api.OK || !bytes.Equal(room, kept) || len(parts) != len(keptParts) || &parts[0][0] != &keptParts[0][0] || parts[1] != nil || len(parts[2]) != 10 {
			t.Fatalf("%d: an argument was changed", bits)
		}
		want := wantSum(bits, parts...)
		first, second := s.Sum(), s.Sum()
		overwrite(first)
		overwrite(one)
		if !bytes.Equal(second, want) || !bytes.Equal(s.Sum(), want) || !bytes.Equal(room, kept) {
			t.Errorf("%d: answers share memory", bits)
		}
	}
}

// P1: what a call answers hangs on no other object; streams of their own may run at the same time.
func TestAtTheSameTime(t *testing.T) {
	data := some(13, 5000)
	var all sync.WaitGroup
	for i := range 8 {
		all.Go(func() {
			bits := hashes[i%4]
			s, _ := digest.New(bits)
			m, _ := digest.NewMac(bits, data[:i])
			for n := range data {
				s.Write(data[n : n+1])
				m.Write(data[n : n+1])
			}
			if !bytes.Equal(s.Sum(), wantSum(bits, data)) || !bytes.Equal(m.Sum(), wantCode(bits, data[:i], data)) {
				t.Errorf("%d: beside others", bits)
			}
		})
	}
	all.Wait()
}

// P1.7
func TestEqual(t *testing.T) {
	a := some(14, 100)
	if !digest.Equal(nil, nil) || !digest.Equal(nil, []byte{}) || !digest.Equal([]byte{}, nil) || !digest.Equal(a, a) || !digest.Equal(a, bytes.Clone(a)) {
		t.Errorf("the same are not")
	}
	if digest.Equal(nil, []byte{0}) || digest.Equal([]byte{0}, nil) || digest.Equal(a, a[:99]) || digest.Equal(a[:99], a) || digest.Equal([]byte{0}, []byte{0, 0}) {
		t.Errorf("unlike lengths are the same")
	}
	for i := range a {
		for bit := range 8 {
			b := bytes.Clone(a)
			b[i] ^= 1 << bit
			if digest.Equal(a, b) || digest.Equal(b, a) {
				t.Fatalf("byte %d, bit %d", i, bit)
			}
		}
	}
	b := bytes.Clone(a) // two faults that would cancel each other out
	b[3] ^= 0x10
	b[70] ^= 0x10
	if digest.Equal(a, b) {
		t.Errorf("two faults")
	}
}

// The layer leans on api alone, and on no package of the library's crypto, hash or encoding.
func TestImports(t *testing.T) {
	files, err := filepath.Glob("*.go")
	if err != nil || len(files) == 0 {
		t.Fatal(files, err)
	}
	for _, name := range files {
		if strings.HasSuffix(name, "_test.go") {
			continue
		}
		f, err := parser.ParseFile(token.NewFileSet(), name, nil, parser.ImportsOnly)
		if err != nil {
			t.Fatal(err)
		}
		for _, i := range f.Imports {
			path, _ := strconv.Unquote(i.Path.Value)
			if !slices.Contains([]string{"coffer/api", "math/bits", "strings"}, path) {
				t.Errorf("%s imports %s", name, path)
			}
		}
	}
}
