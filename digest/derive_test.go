package digest_test

import (
	"bytes"
	"crypto/hkdf"
	"crypto/pbkdf2"
	"math"
	"testing"

	"coffer/api"
	"coffer/digest"
)

func wantStretch(t *testing.T, bits int, pass, salt []byte, turns, n int) []byte {
	t.Helper()
	b, err := pbkdf2.Key(newHash(bits), string(pass), salt, turns, n)
	if err != nil {
		t.Fatal(err)
	}
	return b
}

func wantExpand(t *testing.T, bits int, prk, info []byte, n int) []byte {
	t.Helper()
	b, err := hkdf.Expand(newHash(bits), prk, string(info), n)
	if err != nil {
		t.Fatal(err)
	}
	return b
}

// Example 3 of the chapter.
func TestStretchExample(t *testing.T) {
	pass, salt := []byte("password"), []byte("salt")
	b, e := digest.Stretch(256, pass, salt, 2, 32)
	if e != api.OK || !bytes.Equal(b, unhex(t, "AE4D0C95 AF6B46D3 2D0ADFF9 28F06DD0 2A303F8E F3C251DF D6E2D85A 95474C43")) {
		t.Errorf("%x, %d", b, e)
	}
	if b, e := digest.Stretch(256, pass, salt, 0, 32); len(b) != 0 || e != api.ErrTurns {
		t.Errorf("no turns: %x, %d", b, e)
	}
	if b, e := digest.Stretch(256, pass, salt, 1048576, 96); len(b) != 0 || e != api.ErrDerive {
		t.Errorf("3 blocks: %x, %d", b, e)
	}
}

// P1.5: against the library's.
func TestStretch(t *testing.T) {
	for _, bits := range hashes {
		size, block := digest.Size(bits), digest.Block(bits)
		for _, p := range []int{0, 1, block - 1, block, block + 1, 300} {
			for _, s := range []int{0, 1, 32, block - 4, block} {
				pass, salt := some(30, p), some(31, s)
				for _, c := range [][2]int{{1, 1}, {1, size}, {2, size - 1}, {3, size + 1}, {7, 3*size + 5}} {
					b, e := digest.Stretch(bits, pass, salt, c[0], c[1])
					if e != api.OK || !bytes.Equal(b, wantStretch(t, bits, pass, salt, c[0], c[1])) {
						t.Fatalf("Stretch(%d) of %d and %d bytes, %v: %x, %d", bits, p, s, c, b, e)
					}
				}
			}
		}
	}
}

// P1.5: the greatest numbers that are taken: 257 blocks and more take the second byte of a block's number.
func TestStretchGreatest(t *testing.T) {
	t.Parallel()
	pass, salt := []byte("pass"), []byte("salt")
	for _, bits := range hashes {
		b, e := digest.Stretch(bits, pass, salt, 2, api.MaxDerived)
		if e != api.OK || !bytes.Equal(b, wantStretch(t, bits, pass, salt, 2, api.MaxDerived)) {
			t.Errorf("Stretch(%d) of MaxDerived bytes: %d, %d", bits, len(b), e)
		}
	}
	b, e := digest.Stretch(256, pass, salt, api.MaxTurns, 64) // turns times blocks is just MaxStretch
	if e != api.OK || !bytes.Equal(b, wantStretch(t, 256, pass, salt, api.MaxTurns, 64)) {
		t.Errorf("Stretch of MaxTurns turns: %x, %d", b, e)
	}
	most := make([]byte, api.MaxFed)
	b, e = digest.Stretch(256, most, most[4:], 2, 40)
	if e != api.OK || !bytes.Equal(b, wantStretch(t, 256, most, most[4:], 2, 40)) {
		t.Errorf("Stretch of the longest pass and salt: %x, %d", b, e)
	}
}

// P1.5: each error at its bound, and ahead of those that are named behind it.
func TestStretchErrors(t *testing.T) {
	t.Parallel()
	more := make([]byte, api.MaxFed+1)
	salt := []byte("salt")
	check := func(name string, bits int, pass, salt []byte, turns, n int, want api.Errno) {
		t.Helper()
		b, e := digest.Stretch(bits, pass, salt, turns, n)
		if e != want || (e != api.OK) != (len(b) == 0) || e == api.OK && len(b) != n {
			t.Errorf("%s: Stretch(%d, .., %d, %d): %d bytes, error %d", name, bits, turns, n, len(b), e)
		}
	}
	for _, bits := range wrongHashes {
		check("hash first", bits, more, more, 0, 0, api.ErrHash)
	}
	for _, bits := range hashes {
		check("pass", bits, more, salt, 0, 0, api.ErrLong)
		check("salt", bits, nil, more[:api.MaxFed-3], 0, 0, api.ErrLong)
		check("salt", bits, nil, more, 1, 1, api.ErrLong)
		check("just so long", bits, more[1:], more[5:], 0, 0, api.ErrTurns)
		for _, turns := range []int{0, -1, api.MaxTurns + 1, math.MaxInt, math.MinInt} {
			check("turns", bits, salt, salt, turns, 1, api.ErrTurns)
			check("turns first", bits, salt, salt, turns, 0, api.ErrTurns)
		}
		for _, n := range []int{0, -1, api.MaxDerived + 1, math.MaxInt, math.MinInt} {
			check("n", bits, salt, salt, 1, n, api.ErrDerive)
		}
		size := digest.Size(bits)
		check("three blocks", bits, salt, salt, api.MaxTurns, 2*size+1, api.ErrDerive)
		check("three blocks", bits, salt, salt, api.MaxTurns, 3*size, api.ErrDerive)
		check("most of both", bits, salt, salt, api.MaxTurns, api.MaxDerived, api.ErrDerive)
	}
	// 2341 blocks of 28 bytes, the last one of 16: 895 turns are below MaxStretch, 896 above.
	check("rounded up", 224, salt, salt, 896, api.MaxDerived, api.ErrDerive)
	check("rounded up", 224, salt, salt, 895, api.MaxDerived, api.OK)
	// 2340 blocks, all full.
	check("full", 224, salt, salt, 896, 2340*28, api.OK)
	check("one more", 224, salt, salt, 896, 2340*28+1, api.ErrDerive)
	// 5419 turns of 387 blocks are just one more than MaxStretch.
	check("one above MaxStretch", 256, salt, salt, 5419, 387*32, api.ErrDerive)
}

// Example 4 of the chapter, and RFC 5869.
func TestExpandExample(t *testing.T) {
	prk := unhex(t, "077709362C2E32DF0DDC3F0DC47BBA6390B6C73BB50F9C3122EC844AD7C2B3E5")
	info := unhex(t, "F0F1F2F3F4F5F6F7F8F9")
	if b, e := digest.Expand(256, prk, info, 4); e != api.OK || !bytes.Equal(b, unhex(t, "3CB25F25")) {
		t.Errorf("%x, %d", b, e)
	}
	if b, e := digest.Expand(256, prk[:31], info, 4); len(b) != 0 || e != api.ErrPrk {
		t.Errorf("31 bytes: %x, %d", b, e)
	}
	b, e := digest.Extract(256, unhex(t, "000102030405060708090A0B0C"), bytes.Repeat([]byte{0x0b}, 22))
	if e != api.OK || !bytes.Equal(b, prk) {
		t.Errorf("Extract: %x, %d", b, e)
	}
}

// P1.6: Extract is Code, its errors too.
func TestExtract(t *testing.T) {
	more := make([]byte, api.MaxFed+1)
	for _, bits := range append([]int{0, 255}, hashes...) {
		for _, c := range [][2][]byte{{nil, nil}, {some(32, 10), some(33, 20)}, {some(34, 200), nil}, {more, nil}, {nil, more}, {more, more}} {
			b, e := digest.Extract(bits, c[0], c[1])
			want, f := digest.Code(bits, c[0], c[1])
			if e != f || !bytes.Equal(b, want) {
				t.Errorf("Extract(%d) of %d and %d bytes: %x, %d", bits, len(c[0]), len(c[1]), b, e)
			}
		}
		if digest.Size(bits) != 0 {
			b, _ := digest.Extract(bits, []byte("salt"), []byte("secret"))
			want, err := hkdf.Extract(newHash(bits), []byte("secret"), []byte("salt"))
			if err != nil || !bytes.Equal(b, want) {
				t.Errorf("Extract(%d): %x, %v", bits, b, err)
			}
		}
	}
}

// P1.6: against the library's, up to 255 times size.
func TestExpand(t *testing.T) {
	t.Parallel()
	for _, bits := range hashes {
		size := digest.Size(bits)
		for _, p := range []int{size, size + 1, 150, 300} {
			for _, i := range []int{0, 1, 100, 200} {
				prk, info := some(35, p), some(36, i)
				for _, n := range []int{1, size - 1, size, size + 1, 5 * size, 255*size - 1, 255 * size} {
					if b, e := digest.Expand(bits, prk, info, n); e != api.OK || !bytes.Equal(b, wantExpand(t, bits, prk, info, n)) {
						t.Fatalf("Expand(%d) of %d and %d bytes, %d: %d, %d", bits, p, i, n, len(b), e)
					}
				}
			}
		}
	}
	most := make([]byte, api.MaxFed)
	if b, e := digest.Expand(512, most, most[65:], 65); e != api.OK || !bytes.Equal(b, wantExpand(t, 512, most, most[65:], 65)) {
		t.Errorf("Expand of the longest prk and info: %x, %d", b, e)
	}
}

// P1.6: each error at its bound, and ahead of those that are named behind it.
func TestExpandErrors(t *testing.T) {
	more := make([]byte, api.MaxFed+1)
	check := func(name string, bits, prk, info, n int, want api.Errno) {
		t.Helper()
		b, e := digest.Expand(bits, more[:prk], more[:info], n)
		if e != want || (e != api.OK) != (len(b) == 0) || e == api.OK && len(b) != n {
			t.Errorf("%s: Expand(%d) of %d and %d bytes, %d: %d bytes, error %d", name, bits, prk, info, n, len(b), e)
		}
	}
	for _, bits := range wrongHashes {
		check("hash first", bits, 0, len(more), 0, api.ErrHash)
		check("hash first", bits, len(more), 0, 1, api.ErrHash)
	}
	for _, bits := range hashes {
		size := digest.Size(bits)
		for _, p := range []int{0, 1, size - 1} {
			check("prk first", bits, p, len(more), 0, api.ErrPrk)
			check("prk", bits, p, 0, 1, api.ErrPrk)
		}
		check("prk too long", bits, len(more), 0, 0, api.ErrLong)
		check("info too long", bits, size, api.MaxFed-64, 0, api.ErrLong)
		check("info too long", bits, size, len(more), 1, api.ErrLong)
		check("just so long", bits, api.MaxFed, api.MaxFed-65, 0, api.ErrDerive)
		for _, n := range []int{0, -1, 255*size + 1, math.MaxInt, math.MinInt} {
			check("n", bits, size, 0, n, api.ErrDerive)
		}
		check("all", bits, size, 0, 255*size, api.OK)
	}
}

// P1.13
func TestBeginnings(t *testing.T) {
	pass, salt := []byte("pass"), []byte("salt")
	for _, bits := range hashes {
		size := digest.Size(bits)
		long, _ := digest.Stretch(bits, pass, salt, 3, 4*size)
		longer, _ := digest.Expand(bits, some(37, size), salt, 4*size)
		for n := 1; n <= 4*size; n++ {
			if b, e := digest.Stretch(bits, pass, salt, 3, n); e != api.OK || !bytes.Equal(b, long[:n]) {
				t.Fatalf("Stretch(%d) of %d bytes", bits, n)
			}
			if b, e := digest.Expand(bits, some(37, size), salt, n); e != api.OK || !bytes.Equal(b, longer[:n]) {
				t.Fatalf("Expand(%d) of %d bytes", bits, n)
			}
		}
	}
}

// P1.14
func TestDeriveMemory(t *testing.T) {
	for _, bits := range hashes {
		room := some(38, 600)
		a, b := room[10:210], room[300:400]
		kept := bytes.Clone(room)
		calls := []func() ([]byte, api.Errno){
			func() ([]byte, api.Errno) { return digest.Stretch(bits, a, b, 2, 33) },
			func() ([]byte, api.Errno) { return digest.Extract(bits, a, b) },
			func() ([]byte, api.Errno) { return digest.Expand(bits, a, b, 33) },
		}
		for i, call := range calls {
			first, e := call()
			want := bytes.Clone(first)
			overwrite(first)
			second, f := call()
			if e != api.OK || f != api.OK || !bytes.Equal(second, want) || !bytes.Equal(room, kept) {
				t.Errorf("%d: call %d shares memory", bits, i)
			}
		}
	}
}
