package shred_test

import (
	"bytes"
	"crypto/sha256"
	"crypto/sha512"
	"encoding/binary"
	"encoding/hex"
	"hash"
	"math"
	"math/rand"
	"strings"
	"testing"

	"coffer/api"
	"coffer/shred"
)

var hashes = []int{api.Hash224, api.Hash256, api.Hash384, api.Hash512}

// wrongHashes are numbers of no digest.
var wrongHashes = []int{0, 1, -1, 28, 32, 160, 255, 257, 1024, -256, math.MaxInt, math.MinInt}

// newHash begins the library's own digest, which the model is made of.
func newHash(bits int) hash.Hash {
	switch bits {
	case 224:
		return sha256.New224()
	case 256:
		return sha256.New()
	case 384:
		return sha512.New384()
	}
	return sha512.New()
}

// modelDiffuse is the chapter's word 'Diffuse' once more.
func modelDiffuse(bits int, block []byte) []byte {
	var out []byte
	for i := uint32(0); len(block) > 0; i++ {
		h := newHash(bits)
		n := min(h.Size(), len(block))
		h.Write(binary.BigEndian.AppendUint32(nil, i))
		h.Write(block[:n])
		out = append(out, h.Sum(nil)[:n]...)
		block = block[n:]
	}
	return out
}

// modelMask tells d behind these stripes of size bytes.
func modelMask(bits, size int, stripes []byte) []byte {
	d := make([]byte, size)
	for ; len(stripes) > 0; stripes = stripes[size:] {
		d = modelDiffuse(bits, sum(d, stripes[:size]))
	}
	return d
}

func modelSplit(bits int, secret, random []byte) []byte {
	last := sum(modelMask(bits, len(secret), random), secret)
	return append(bytes.Clone(random), last...)
}

// sum is the exclusive or of two lists of one length.
func sum(a, b []byte) []byte {
	out := bytes.Clone(a)
	for i := range b {
		out[i] ^= b[i]
	}
	return out
}

// some gives n bytes that look random and are the same in every run.
func some(seed int64, n int) []byte {
	b := make([]byte, n)
	rand.New(rand.NewSource(seed)).Read(b)
	return b
}

// unhex reads the spaced capitals of the chapter's examples.
func unhex(t *testing.T, s string) []byte {
	t.Helper()
	b, err := hex.DecodeString(strings.ReplaceAll(s, " ", ""))
	if err != nil {
		t.Fatal(err)
	}
	return b
}

func mustSplit(t *testing.T, bits int, secret []byte, stripes int, random []byte) []byte {
	t.Helper()
	m, e := shred.Split(bits, secret, stripes, random)
	if e != api.OK || len(m) != len(secret)*stripes {
		t.Fatalf("Split(%d) of %d bytes, %d stripes: %d bytes, error %d", bits, len(secret), stripes, len(m), e)
	}
	return m
}

func mustMerge(t *testing.T, bits int, material []byte, stripes int) []byte {
	t.Helper()
	s, e := shred.Merge(bits, material, stripes)
	if e != api.OK || len(s)*stripes != len(material) {
		t.Fatalf("Merge(%d) of %d bytes, %d stripes: %d bytes, error %d", bits, len(material), stripes, len(s), e)
	}
	return s
}

// secretSizes are a secret's lengths: its ends, and what lies about one, two and many pieces of the digest.
func secretSizes(bits int) []int {
	size := bits / 8
	return []int{1, 2, size - 1, size, size + 1, 2*size - 1, 2 * size, 2*size + 1, 200, api.MaxSecret - 1, api.MaxSecret}
}
