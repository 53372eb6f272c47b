package tweak_test

import (
	"bytes"
	"encoding/hex"
	"math"
	"strings"
	"testing"

	"coffer/api"
	"coffer/tweak"
)

// checkSector seals a sector as the model does, and opens it; what is opened first is sealed back too.
func checkSector(t *testing.T, c *tweak.Cipher, key []byte, s uint64, text []byte) {
	t.Helper()
	before := bytes.Clone(text)
	sealed, e := c.Seal(s, text)
	if want := modelSeal(c.Spec(), key, s, text); e != api.OK || !bytes.Equal(sealed, want) {
		t.Fatalf("%s Seal(%d, %d bytes): error %d\n%x, not\n%x", c.Spec(), s, len(text), e, sealed, want)
	}
	if back, e := c.Open(s, sealed); e != api.OK || !bytes.Equal(back, text) {
		t.Fatalf("%s Open(%d, %d bytes): error %d\n%x, not\n%x", c.Spec(), s, len(text), e, back, text)
	}
	opened, e := c.Open(s, text)
	if back, f := c.Seal(s, opened); e != api.OK || f != api.OK || !bytes.Equal(back, text) {
		t.Fatalf("%s opened and sealed (%d, %d bytes): errors %d, %d\n%x, not\n%x", c.Spec(), s, len(text), e, f, back, text)
	}
	if !bytes.Equal(text, before) {
		t.Fatalf("%s (%d, %d bytes): what was handed in is changed", c.Spec(), s, len(text))
	}
}

// each runs a test for every name that the condition takes.
func each(t *testing.T, takes func(spec string) bool, test func(t *testing.T, spec string)) {
	n := 0
	for _, spec := range tweak.Specs() {
		if takes(spec) {
			n++
			t.Run(spec, func(t *testing.T) {
				t.Parallel()
				test(t, spec)
			})
		}
	}
	if n == 0 {
		t.Error("no such name")
	}
}

func has(part string) func(string) bool {
	return func(spec string) bool { return strings.Contains(spec, part) }
}

func anyName(string) bool { return true }

// P3.6 to P3.13: all names, all sectors of the list, short sectors.
func TestShortSectors(t *testing.T) {
	each(t, anyName, func(t *testing.T, spec string) {
		for i, s := range sectors {
			key := keyOf(t, spec, 200+i)
			c := mustCipher(t, spec, key)
			for n := 16; n <= 96; n++ {
				if n%16 == 0 || mayBeOdd(spec) {
					checkSector(t, c, key, s, some(n+i, n))
				}
			}
		}
	})
}

// P3.6 to P3.13: all names, long sectors: MaxUnit, and a little less.
func TestLongSectors(t *testing.T) {
	each(t, anyName, func(t *testing.T, spec string) {
		key := keyOf(t, spec, 300)
		c := mustCipher(t, spec, key)
		for _, s := range []uint64{0, 1<<32 + 1, 1<<56 - 1, math.MaxUint64} {
			for _, n := range []int{512, 1024, 4080, 4095, 4096} {
				if n%16 == 0 || mayBeOdd(spec) {
					checkSector(t, c, key, s, some(int(s%7)+n, n))
				}
			}
		}
	})
}

// P3.6 to P3.13: zeros and ones.
func TestPlainTexts(t *testing.T) {
	each(t, anyName, func(t *testing.T, spec string) {
		key := keyOf(t, spec, 310)
		c := mustCipher(t, spec, key)
		for _, b := range []byte{0, 0xff} {
			checkSector(t, c, key, 6, bytes.Repeat([]byte{b}, 16))
			checkSector(t, c, key, 6, bytes.Repeat([]byte{b}, 512))
		}
	})
}

// P3.6: null gives the bytes themselves, as a new list.
func TestNull(t *testing.T) {
	c := mustCipher(t, "null", nil)
	for n := 16; n <= 4096; n++ {
		text := some(n, n)
		if got, e := c.Seal(uint64(n), text); e != api.OK || !bytes.Equal(got, text) {
			t.Fatalf("Seal of %d bytes: error %d", n, e)
		}
		if got, e := c.Open(uint64(n), text); e != api.OK || !bytes.Equal(got, text) {
			t.Fatalf("Open of %d bytes: error %d", n, e)
		}
	}
}

// P3.6, P3.13: which numbers of bytes may be; with the others there is an error and nothing else.
func TestNumbersOfBytes(t *testing.T) {
	each(t, anyName, func(t *testing.T, spec string) {
		c := mustCipher(t, spec, keyOf(t, spec, 320))
		list := make([]byte, 10000)
		for _, n := range []int{0, 1, 15, 16, 17, 24, 31, 32, 33, 511, 512, 513, 4079, 4080, 4081, 4095, 4096, 4097, 4112, 8192, 10000} {
			want := api.OK
			if n < 16 || n > 4096 || n%16 != 0 && !mayBeOdd(spec) {
				want = api.ErrTweakLen
			}
			sealed, e := c.Seal(1, list[:n])
			opened, f := c.Open(1, list[:n])
			iv, g := c.IV(1, n)
			if e != want || f != want || g != want {
				t.Errorf("%s, %d bytes: errors %d, %d, %d, not %d", spec, n, e, f, g, want)
			}
			if want != api.OK && (sealed != nil || opened != nil || iv != nil) {
				t.Errorf("%s, %d bytes: something beside an error", spec, n)
			}
			if want == api.OK && (len(sealed) != n || len(opened) != n) {
				t.Errorf("%s, %d bytes: %d, %d answered", spec, n, len(sealed), len(opened))
			}
		}
		for _, n := range []int{-1, -16, -32, math.MinInt, math.MaxInt, 1 << 32, 1<<32 + 16} {
			if iv, e := c.IV(1, n); e != api.ErrTweakLen || iv != nil {
				t.Errorf("%s IV(1, %d): error %d", spec, n, e)
			}
		}
		for _, none := range [][]byte{nil, {}} {
			if got, e := c.Seal(1, none); e != api.ErrTweakLen || got != nil {
				t.Errorf("%s Seal of nothing: error %d", spec, e)
			}
			if got, e := c.Open(1, none); e != api.ErrTweakLen || got != nil {
				t.Errorf("%s Open of nothing: error %d", spec, e)
			}
		}
	})
}

// P3.6, P3.13: bytes behind a list's end don't count and are left alone; answers are new lists.
func TestNewLists(t *testing.T) {
	each(t, anyName, func(t *testing.T, spec string) {
		key := keyOf(t, spec, 330)
		c := mustCipher(t, spec, key)
		for _, n := range []int{16, 32, 47, 512} {
			if n%16 != 0 && !mayBeOdd(spec) {
				continue
			}
			room := some(n, n+64)
			before := bytes.Clone(room)
			checkSector(t, c, key, 4, room[:n])
			for _, do := range []func(uint64, []byte) ([]byte, api.Errno){c.Seal, c.Open} {
				a, _ := do(4, room[:n])
				b, _ := do(4, room[:n])
				want := bytes.Clone(b)
				spoil(a)
				if !bytes.Equal(room, before) {
					t.Fatalf("%s, %d bytes: an answer shares memory with what was handed in", spec, n)
				}
				if !bytes.Equal(b, want) {
					t.Fatalf("%s, %d bytes: two answers share memory", spec, n)
				}
				spoil(b)
				if again, _ := do(4, room[:n]); !bytes.Equal(again, want) {
					t.Fatalf("%s, %d bytes: an answer is kept", spec, n)
				}
			}
		}
	})
}

// P3.7: cbc's first block hangs on the initial block, those behind it on what was sealed.
func TestChain(t *testing.T) {
	c := mustCipher(t, "aes128-cbc-plain64", unhex("2b7e151628aed2a6abf7158809cf4f3c"))
	e := mustCipher(t, "aes128-ecb", unhex("2b7e151628aed2a6abf7158809cf4f3c"))
	plain := some(340, 64)
	ahead, _ := c.IV(6, 64)
	got, _ := c.Seal(6, plain)
	for j := range 4 {
		want, _ := e.Seal(0, sum(plain[16*j:16*j+16], ahead))
		if !bytes.Equal(got[16*j:16*j+16], want) {
			t.Errorf("block %d: %x, not %x", j, got[16*j:16*j+16], want)
		}
		ahead = want
	}
}

// P3.8: every length of a sector up to where no place comes round twice, and the sectors at the edges.
func TestElephant(t *testing.T) {
	each(t, has("elephant"), func(t *testing.T, spec string) {
		key := keyOf(t, spec, 350)
		c := mustCipher(t, spec, key)
		for n := 16; n <= 512; n += 16 {
			checkSector(t, c, key, math.MaxUint64-uint64(n), some(351+n, n))
		}
	})
}

// P3.9: the whitening is what lies over the sealed bytes of cbc with the same initial block.
func TestWhitening(t *testing.T) {
	each(t, has("tcw"), func(t *testing.T, spec string) {
		key := keyOf(t, spec, 360)
		c := mustCipher(t, spec, key)
		for s := range uint64(300) {
			checkSector(t, c, key, s*s*s<<20|s, some(361, 32))
		}
		clear(key[len(key)-16:])
		white := mustCipher(t, spec, key)
		sealed, _ := white.Seal(0, some(362, 64))
		iv, _ := white.IV(0, 64)
		if want := modelCBC(key[:len(key)-32], iv, some(362, 64)); !bytes.Equal(sealed, want) {
			t.Errorf("%s: whitened though there is nothing to whiten with", spec)
		}
	})
}

// P3.10: stealing with every rest, behind one, two and many blocks.
func TestStealing(t *testing.T) {
	each(t, has("xts"), func(t *testing.T, spec string) {
		key := keyOf(t, spec, 370)
		c := mustCipher(t, spec, key)
		for r := range 16 {
			for _, whole := range []int{1, 2, 3, 31, 255} {
				checkSector(t, c, key, 1<<63+uint64(r), some(371+r, 16*whole+r))
			}
		}
	})
}

// P3.11: numbers of blocks that go over 2^64 within a sector, and all sectors near there.
func TestLRWCarries(t *testing.T) {
	each(t, has("lrw"), func(t *testing.T, spec string) {
		key := keyOf(t, spec, 380)
		c := mustCipher(t, spec, key)
		for d := range uint64(4) {
			checkSector(t, c, key, 1<<56-2+d, some(381, 4096))
			checkSector(t, c, key, 1<<59-2+d, some(381, 512))
			checkSector(t, c, key, math.MaxUint64-d, some(382, 16))
		}
	})
}

// P3.12: no rest, whole rests and such as are filled up, with every number of bytes.
func TestWideBlock(t *testing.T) {
	each(t, has("hctr2"), func(t *testing.T, spec string) {
		key := keyOf(t, spec, 390)
		c := mustCipher(t, spec, key)
		for n := 16; n <= 130; n++ {
			checkSector(t, c, key, uint64(n)<<30, some(391+n, n))
		}
	})
}

// P3.12: any byte of a sector changes every block of the answer.
func TestWideBlockIsWide(t *testing.T) {
	c := mustCipher(t, "aes256-hctr2-plain64", some(400, 32))
	plain := some(401, 80)
	a, _ := c.Seal(3, plain)
	for i := range plain {
		plain[i] ^= 1
		b, _ := c.Seal(3, plain)
		plain[i] ^= 1
		for j := range 5 {
			if bytes.Equal(a[16*j:16*j+16], b[16*j:16*j+16]) {
				t.Errorf("byte %d does not reach block %d", i, j)
			}
		}
	}
}

// Vectors that others have published.
func TestPublished(t *testing.T) {
	zeros := strings.Repeat("00", 32)
	for _, v := range []struct {
		spec, key, plain, sealed string
		sector                   uint64
	}{
		{"aes128-xts-plain64", zeros, zeros, "917cf69ebd68b2ec9b9fe9a3eadda692cd43d2f59598ed858c02c2652fbf922e", 0},
		{"aes128-xts-plain64", strings.Repeat("11", 16) + strings.Repeat("22", 16), strings.Repeat("44", 32), "c454185e6a16936e39334038acef838bfb186fff7480adc4289382ecd6d394f0", 0x3333333333},
		{"aes128-xts-plain64", "fffefdfcfbfaf9f8f7f6f5f4f3f2f1f022222222222222222222222222222222", strings.Repeat("44", 32), "af85336b597afc1a900b2eb21ec949d292df4c047e0b21532186a5971a227a89", 0x3333333333},
		{"aes128-xts-plain64", "fffefdfcfbfaf9f8f7f6f5f4f3f2f1f0bfbebdbcbbbab9b8b7b6b5b4b3b2b1b0", "000102030405060708090a0b0c0d0e0f10", "6c1625db4671522d3d7599601de7ca09ed", 0x123456789a},
		{"aes128-ecb", "2b7e151628aed2a6abf7158809cf4f3c", "6bc1bee22e409f96e93d7e117393172a", "3ad77bb40d7a3660a89ecaf32466ef97", 9},
		{"aes128-lrw-benbi", "4562ac25f828176d4c268414b5680185258e2a05e73e9d03ee5a830ccc094c87", hex.EncodeToString([]byte("0123456789ABCDEF")), "f1b273cd65a3df5fe95d489254634eb8", 0},
		{"aes128-lrw-benbi", "59704714f557478cd779e80f548879440d48f0b7b15a53ea1caa6b29c2cafbaf", hex.EncodeToString([]byte("0123456789ABCDEF")), "00c82bae95bbcde5274f0769b260e136", 1},
	} {
		c := mustCipher(t, v.spec, unhex(v.key))
		got, e := c.Seal(v.sector, unhex(v.plain))
		if e != api.OK || hex.EncodeToString(got) != v.sealed {
			t.Errorf("%s of sector %x: %x, error %d; not %s", v.spec, v.sector, got, e, v.sealed)
		}
	}
}
