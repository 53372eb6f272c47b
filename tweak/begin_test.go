package tweak_test

import (
	"bytes"
	"math"
	"strings"
	"testing"

	"coffer/api"
	"coffer/tweak"
)

// sectors: 0, and where products and counts go beyond 32, 64 bits.
var sectors = []uint64{0, 1, 3, 255, 1<<32 - 1, 1 << 32, 1<<32 + 5, 1<<52 - 1, 1 << 52, 1<<56 - 1, 1 << 56, 1<<63 - 1, 1 << 63, math.MaxUint64 - 1, math.MaxUint64}

// P3.5: every name's initial blocks, as the model tells them.
func TestInitialBlocks(t *testing.T) {
	for i, spec := range tweak.Specs() {
		key := keyOf(t, spec, 100+i)
		c := mustCipher(t, spec, key)
		for _, s := range sectors {
			for _, n := range []int{16, 32, 48, 512, 1024, 4080, 4096} {
				got, e := c.IV(s, n)
				if want := modelIV(spec, key, s, n); e != api.OK || !bytes.Equal(got, want) {
					t.Fatalf("%s IV(%d, %d): %x, error %d; not %x", spec, s, n, got, e, want)
				}
			}
		}
	}
}

// P3.5: null and ecb have none, all others 16 bytes.
func TestLengthOfInitialBlocks(t *testing.T) {
	for _, spec := range tweak.Specs() {
		got, e := mustCipher(t, spec, keyOf(t, spec, 1)).IV(9, 512)
		want := 16
		if spec == "null" || strings.HasSuffix(spec, "-ecb") {
			want = 0
		}
		if len(got) != want || e != api.OK {
			t.Errorf("%s: %d bytes, error %d", spec, len(got), e)
		}
	}
}

// P3.5: numbers of bytes that no multiple of 16 are, with the ciphers that take them.
func TestInitialBlocksOfOddSectors(t *testing.T) {
	for _, spec := range tweak.Specs() {
		key := keyOf(t, spec, 2)
		c := mustCipher(t, spec, key)
		for _, n := range []int{17, 31, 33, 511, 4095} {
			got, e := c.IV(77, n)
			if mayBeOdd(spec) {
				if e != api.OK || !bytes.Equal(got, modelIV(spec, key, 77, n)) {
					t.Errorf("%s IV(77, %d): %x, error %d", spec, n, got, e)
				}
			} else if e != api.ErrTweakLen || len(got) != 0 {
				t.Errorf("%s IV(77, %d): %x, error %d", spec, n, got, e)
			}
		}
	}
}

// P3.5: ESSIV's inner key is the digest of the whole key, of XTS' both halves.
func TestWholeKeyInESSIV(t *testing.T) {
	for _, spec := range []string{"aes128-xts-essiv:sha256", "aes192-xts-essiv:sha256", "aes256-xts-essiv:sha256"} {
		key := keyOf(t, spec, 3)
		a, _ := mustCipher(t, spec, key).IV(1, 512)
		key[len(key)-1]++
		b, _ := mustCipher(t, spec, key).IV(1, 512)
		if bytes.Equal(a, b) {
			t.Errorf("%s: the key's last byte does not count", spec)
		}
	}
}

// P3.5: each answer is a new list.
func TestInitialBlocksAreNew(t *testing.T) {
	for _, spec := range tweak.Specs() {
		key := keyOf(t, spec, 4)
		c := mustCipher(t, spec, key)
		a, _ := c.IV(5, 512)
		b, _ := c.IV(5, 512)
		spoil(a)
		if want := modelIV(spec, key, 5, 512); !bytes.Equal(b, want) {
			t.Errorf("%s: two answers share memory", spec)
		} else if again, _ := c.IV(5, 512); !bytes.Equal(again, want) {
			t.Errorf("%s: an answer is kept", spec)
		}
	}
}

// spoil turns every byte of a list, of the spare room behind it too.
func spoil(list []byte) {
	list = list[:cap(list)]
	for i := range list {
		list[i] ^= 0xff
	}
}
