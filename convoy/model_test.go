package convoy_test

import (
	"crypto/sha256"
	"math/rand"
	"testing"

	"coffer/api"
	"coffer/tweak"
)

// expect holds what was answered against what should be.
func expect[T comparable](t *testing.T, name string, got, want T) {
	t.Helper()
	if got != want {
		t.Errorf("%s: %v, not %v", name, got, want)
	}
}

// some gives n bytes that look like any others; the same seed gives the same ones.
func some(seed int64, n int) []byte {
	b := make([]byte, n)
	rand.New(rand.NewSource(seed)).Read(b)
	return b
}

// cipher makes one with some key.
func cipher(t testing.TB, spec string, seed int64) *tweak.Cipher {
	t.Helper()
	n, e := tweak.KeySize(spec)
	if e != api.OK {
		t.Fatalf("%s: %d", spec, e)
	}
	c, e := tweak.New(spec, some(seed, n))
	if e != api.OK {
		t.Fatalf("%s: %d", spec, e)
	}
	return c
}

// wiped makes a cipher that has no key any more.
func wiped(t testing.TB) *tweak.Cipher {
	c := cipher(t, "aes128-xts-plain64", 1)
	c.Wipe()
	return c
}

var units = []int{512, 1024, 2048, 4096}

// bySector is the chapter's P12.2 without workers: each sector by itself, put one behind the other.
func bySector(t testing.TB, unit int, first uint64, run []byte, do func(number uint64, data []byte) ([]byte, api.Errno)) []byte {
	t.Helper()
	var out []byte
	for i := 0; i*unit < len(run); i++ {
		b, e := do(first+uint64(i), run[i*unit:(i+1)*unit])
		if e != api.OK || len(b) != unit {
			t.Fatalf("sector %d: error %d, %d bytes", i, e, len(b))
		}
		out = append(out, b...)
	}
	return out
}

// modelDigests is P12.3 by the library.
func modelDigests(unit int, run []byte) []string {
	var out []string
	for ; len(run) > 0; run = run[unit:] {
		sum := sha256.Sum256(run[:unit])
		out = append(out, string(sum[:]))
	}
	return out
}
