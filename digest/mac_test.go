package digest_test

import (
	"bytes"
	"crypto/hmac"
	"math/rand"
	"slices"
	"testing"

	"coffer/api"
	"coffer/digest"
)

func wantCode(bits int, key []byte, parts ...[]byte) []byte {
	h := hmac.New(newHash(bits), key)
	for _, p := range parts {
		h.Write(p)
	}
	return h.Sum(nil)
}

func mustMac(t *testing.T, bits int, key []byte) *digest.Mac {
	t.Helper()
	m, e := digest.NewMac(bits, key)
	if m == nil || e != api.OK {
		t.Fatalf("NewMac(%d): error %d", bits, e)
	}
	return m
}

// Example 2 of the chapter, and vectors of RFC 4231.
func TestCodeVectors(t *testing.T) {
	b, e := digest.Code(256, []byte("Jefe"), []byte("what do ya want "), []byte("for nothing?"))
	if e != api.OK || !bytes.Equal(b, unhex(t, "5BDCC146 BF60754E 6A042426 089575C7 5A003F08 9D273983 9DEC58B9 64EC3843")) {
		t.Errorf("example 2: %x, %d", b, e)
	}
	hi := bytes.Repeat([]byte{0x0b}, 20)
	for bits, want := range map[int]string{
		224: "896fb1128abbdf196832107cd49df33f47b4b1169912ba4f53684b22",
		256: "b0344c61d8db38535ca8afceaf0bf12b881dc200c9833da726e9376c2e32cff7",
		384: "afd03944d84895626b0825f4ab46907f15f9dadbe4101ec682aa034c7cebc59cfaea9ea9076ede7f4af152e8b2fa9cb6",
		512: "87aa7cdea5ef619d4ff0b4241a1d6cb02379f4e2ce4ec2787ad0b30545e17cdedaa833b7d6b8a702038b274eaea3f4e4be9d914eeb61f1702e696c203a126854",
	} {
		if b, e := digest.Code(bits, hi, []byte("Hi There")); e != api.OK || !bytes.Equal(b, unhex(t, want)) {
			t.Errorf("RFC 4231, 1, %d: %x, %d", bits, b, e)
		}
	}
}

// P1.3, P1.4: keys of every length about a block, of no bytes too.
func TestCodeOfEveryKey(t *testing.T) {
	key, data := some(20, 300), some(21, 150)
	for _, bits := range hashes {
		for n := range len(key) + 1 {
			want := wantCode(bits, key[:n], data)
			if b, e := digest.Code(bits, key[:n], data[:70], nil, data[70:]); e != api.OK || !bytes.Equal(b, want) {
				t.Fatalf("Code(%d) under %d bytes: %x, %d", bits, n, b, e)
			}
			m := mustMac(t, bits, key[:n])
			if m.Write(data) != api.OK || m.Size() != digest.Size(bits) || !bytes.Equal(m.Sum(), want) {
				t.Fatalf("Mac(%d) under %d bytes", bits, n)
			}
		}
		for n := range len(data) + 1 {
			if b, e := digest.Code(bits, key[:40], data[:n]); e != api.OK || !bytes.Equal(b, wantCode(bits, key[:40], data[:n])) {
				t.Fatalf("Code(%d) of %d bytes: %x, %d", bits, n, b, e)
			}
		}
		if b, e := digest.Code(bits, nil); e != api.OK || !bytes.Equal(b, wantCode(bits, nil)) {
			t.Errorf("Code(%d) of nothing under nothing: %x, %d", bits, b, e)
		}
	}
}

// P1.11: keys that give the same key block.
func TestKeysThatAreAsGood(t *testing.T) {
	data := some(22, 99)
	for _, bits := range hashes {
		block := digest.Block(bits)
		key := some(23, 2*block)
		for n := range block + 1 {
			code, _ := digest.Code(bits, key[:n], data)
			filled := make([]byte, block)
			copy(filled, key[:n])
			for m := n; m <= block; m++ {
				if b, e := digest.Code(bits, filled[:m], data); e != api.OK || !bytes.Equal(b, code) {
					t.Fatalf("%d: a key of %d bytes with zeros up to %d", bits, n, m)
				}
			}
		}
		for n := block + 1; n <= len(key); n++ {
			code, _ := digest.Code(bits, key[:n], data)
			short, _ := digest.Sum(bits, key[:n])
			if b, e := digest.Code(bits, short, data); e != api.OK || !bytes.Equal(b, code) {
				t.Fatalf("%d: a key of %d bytes and its digest", bits, n)
			}
		}
		whole, _ := digest.Code(bits, key[:block], data)
		short, _ := digest.Sum(bits, key[:block])
		if b, _ := digest.Code(bits, short, data); bytes.Equal(b, whole) {
			t.Errorf("%d: a key of just a block was digested", bits)
		}
	}
}

// P1.3, P1.4: bounds, and which error is named first.
func TestMacErrors(t *testing.T) {
	t.Parallel()
	most, more := make([]byte, api.MaxFed), make([]byte, api.MaxFed+1)
	for _, bits := range wrongHashes {
		if m, e := digest.NewMac(bits, more); m != nil || e != api.ErrHash {
			t.Errorf("NewMac(%d): %v, %d", bits, m, e)
		}
		if b, e := digest.Code(bits, more, more); len(b) != 0 || e != api.ErrHash {
			t.Errorf("Code(%d): %x, %d", bits, b, e)
		}
	}
	for _, bits := range hashes {
		if m, e := digest.NewMac(bits, more); m != nil || e != api.ErrLong {
			t.Errorf("NewMac(%d) under more than MaxFed: %v, %d", bits, m, e)
		}
		for _, c := range [][][]byte{{more}, {nil, more}, {nil, most, {1}}, {{1}, {1}, most}, {more, more}} {
			if b, e := digest.Code(bits, c[0], c[1:]...); len(b) != 0 || e != api.ErrLong {
				t.Errorf("Code(%d) of more than MaxFed: %x, %d", bits, b, e)
			}
		}
		if b, e := digest.Code(bits, most, []byte("a")); e != api.OK || !bytes.Equal(b, wantCode(bits, most, []byte("a"))) {
			t.Errorf("Code(%d) under MaxFed bytes: %x, %d", bits, b, e)
		}
		if b, e := digest.Code(bits, []byte("k"), most[:5], most[5:]); e != api.OK || !bytes.Equal(b, wantCode(bits, []byte("k"), most)) {
			t.Errorf("Code(%d) of MaxFed bytes: %x, %d", bits, b, e)
		}
	}
}

// P1.3: the key does not count among what a Mac is fed; a write that is too long takes nothing.
func TestMacBound(t *testing.T) {
	t.Parallel()
	most, key := make([]byte, api.MaxFed), []byte("a key")
	for _, bits := range hashes {
		m := mustMac(t, bits, key)
		for range 2 {
			if m.Write(most, []byte{1}) != api.ErrLong || m.Write([]byte{1}, most) != api.ErrLong || !bytes.Equal(m.Sum(), wantCode(bits, key)) {
				t.Errorf("%d: a first write that is too long", bits)
			}
			if m.Write(most[1:]) != api.OK || m.Write([]byte{1, 2}) != api.ErrLong || m.Write([]byte{1}, []byte{2}) != api.ErrLong {
				t.Errorf("%d: up to MaxFed", bits)
			}
			if m.Write([]byte{0}) != api.OK || m.Write() != api.OK || m.Write(nil, nil) != api.OK || m.Write([]byte{0}) != api.ErrLong {
				t.Errorf("%d: at MaxFed", bits)
			}
			if !bytes.Equal(m.Sum(), wantCode(bits, key, most)) {
				t.Errorf("%d: a refused write has left something", bits)
			}
			if m.Reset() != api.OK {
				t.Errorf("%d: Reset of a full one", bits)
			}
		}
	}
}

// Of a nil one.
func TestNilMac(t *testing.T) {
	var m *digest.Mac
	if m.Size() != 0 || m.Write() != api.ErrNil || m.Write([]byte("a")) != api.ErrNil || m.Write(make([]byte, api.MaxFed+1)) != api.ErrNil || m.Reset() != api.ErrNil || len(m.Sum()) != 0 || m.Copy() != nil {
		t.Errorf("of a nil Mac")
	}
}

// P1.3, P1.11: any cuts, Sums between, copies, resets; what becomes of the key does not matter.
func TestMacCuts(t *testing.T) {
	data := some(24, 700)
	r := rand.New(rand.NewSource(25))
	for _, bits := range hashes {
		for _, keySize := range []int{0, 5, digest.Block(bits), digest.Block(bits) + 1} {
			key := some(26, keySize)
			handed := bytes.Clone(key)
			m := mustMac(t, bits, handed)
			if !bytes.Equal(handed, key) {
				t.Fatalf("%d: the key was changed", bits)
			}
			overwrite(handed)
			if !bytes.Equal(m.Sum(), wantCode(bits, key)) {
				t.Fatalf("%d: a Mac that was fed nothing", bits)
			}
			for n := 0; n < len(data); {
				to := min(n+r.Intn(140), len(data))
				part := bytes.Clone(data[n:to])
				if m.Write(part[:len(part)/2], nil, part[len(part)/2:]) != api.OK {
					t.Fatalf("%d: Write", bits)
				}
				overwrite(part)
				n = to
				if !bytes.Equal(m.Sum(), wantCode(bits, key, data[:n])) {
					t.Fatalf("%d: Sum behind %d bytes", bits, n)
				}
				c := m.Copy()
				if c == m || c.Size() != m.Size() || !bytes.Equal(c.Sum(), m.Sum()) {
					t.Fatalf("%d: Copy behind %d bytes", bits, n)
				}
				m.Write([]byte("only there"))
				if m.Reset() != api.OK || !bytes.Equal(m.Sum(), wantCode(bits, key)) || !bytes.Equal(c.Sum(), wantCode(bits, key, data[:n])) {
					t.Fatalf("%d: Reset behind %d bytes", bits, n)
				}
				m = c
			}
		}
	}
}

// P1.14: nothing that is handed in changes, nothing that is answered is shared.
func TestMacMemory(t *testing.T) {
	for _, bits := range hashes {
		room := some(27, 500)
		key, part := room[10:200], room[250:400]
		parts := [][]byte{part, nil, part[5:]}
		kept, keptParts := bytes.Clone(room), slices.Clone(parts)
		m := mustMac(t, bits, key)
		m.Write(parts...)
		one, e := digest.Code(bits, key, parts...)
		if e != api.OK || !bytes.Equal(room, kept) || &parts[0][0] != &keptParts[0][0] || parts[1] != nil || len(parts[2]) != len(keptParts[2]) {
			t.Fatalf("%d: an argument was changed", bits)
		}
		want := wantCode(bits, key, parts...)
		first, second := m.Sum(), m.Sum()
		overwrite(first)
		overwrite(one)
		if !bytes.Equal(second, want) || !bytes.Equal(m.Sum(), want) || !bytes.Equal(room, kept) {
			t.Errorf("%d: answers share memory", bits)
		}
	}
}
