package rijndael_test

import (
	"bytes"
	"crypto/aes"
	"encoding/binary"
	"testing"

	"coffer/api"
	"coffer/rijndael"
)

// wantWrap is the wrap of RFC 3394, by the library's cipher.
func wantWrap(t *testing.T, key, plain []byte) []byte {
	t.Helper()
	c, err := aes.NewCipher(key)
	if err != nil {
		t.Fatal(err)
	}
	n := len(plain) / 8
	out := append(bytes.Repeat([]byte{0xa6}, 8), plain...)
	for j := range 6 {
		for i := 1; i <= n; i++ {
			b := append(bytes.Clone(out[:8]), out[8*i:8*i+8]...)
			c.Encrypt(b, b)
			binary.BigEndian.PutUint64(out, binary.BigEndian.Uint64(b)^uint64(n*j+i))
			copy(out[8*i:], b[8:])
		}
	}
	return out
}

// wantUnwrap undoes it: what is answered when A is right, and whether it is.
func wantUnwrap(t *testing.T, key, sealed []byte) ([]byte, bool) {
	t.Helper()
	c, err := aes.NewCipher(key)
	if err != nil {
		t.Fatal(err)
	}
	n := len(sealed)/8 - 1
	out := bytes.Clone(sealed)
	for j := 5; j >= 0; j-- {
		for i := n; i >= 1; i-- {
			b := binary.BigEndian.AppendUint64(nil, binary.BigEndian.Uint64(out)^uint64(n*j+i))
			b = append(b, out[8*i:8*i+8]...)
			c.Decrypt(b, b)
			copy(out, b[:8])
			copy(out[8*i:], b[8:])
		}
	}
	return out[8:], bytes.Equal(out[:8], bytes.Repeat([]byte{0xa6}, 8))
}

func checkWrap(t *testing.T, k *rijndael.Key, plain, sealed []byte) {
	t.Helper()
	given := bytes.Clone(plain)
	if got, e := rijndael.Wrap(k, given); !bytes.Equal(got, sealed) || e != api.OK {
		t.Errorf("Wrap of %d bytes: %x, error %d, not %x", len(plain), head(got), e, head(sealed))
	}
	if !bytes.Equal(given, plain) {
		t.Errorf("Wrap changed its argument")
	}
	given = bytes.Clone(sealed)
	if got, e := rijndael.Unwrap(k, given); !bytes.Equal(got, plain) || e != api.OK {
		t.Errorf("Unwrap of %d bytes: %x, error %d, not %x", len(sealed), head(got), e, head(plain))
	}
	if !bytes.Equal(given, sealed) {
		t.Errorf("Unwrap changed its argument")
	}
}

func checkUnwrapFails(t *testing.T, k *rijndael.Key, sealed []byte) {
	t.Helper()
	given := bytes.Clone(sealed)
	if got, e := rijndael.Unwrap(k, given); len(got) != 0 || e != api.ErrUnwrap {
		t.Errorf("Unwrap of %x: %x, error %d", head(sealed), head(got), e)
	}
	if !bytes.Equal(given, sealed) {
		t.Errorf("Unwrap changed its argument")
	}
}

// P2.6, P2.7: the fourth example, and the other vectors of RFC 3394.
func TestWrapExamples(t *testing.T) {
	for _, c := range []struct {
		size       int
		plain, out string
	}{
		{16, "00 11 22 33 44 55 66 77 88 99 AA BB CC DD EE FF", "1F A6 8B 0A 81 12 B4 47 AE F3 4B D8 FB 5A 7B 82 9D 3E 86 23 71 D2 CF E5"},
		{24, "00112233445566778899AABBCCDDEEFF", "96778B25AE6CA435F92B5B97C050AED2468AB8A17AD84E5D"},
		{32, "00112233445566778899AABBCCDDEEFF", "64E8C3F9CE0F5BA263E9777905818A2A93C8191E7D6E8AE7"},
		{24, "00112233445566778899AABBCCDDEEFF0001020304050607", "031D33264E15D33268F24EC260743EDCE1C6C7DDEE725A936BA814915C6762D2"},
		{32, "00112233445566778899AABBCCDDEEFF0001020304050607", "A8F9BC1612C68B3FF6E6F4FBE30E71E4769C8B80A32CB8958CD5D17D6B254DA1"},
		{32, "00112233445566778899AABBCCDDEEFF000102030405060708090A0B0C0D0E0F", "28C9F404C4B810F4CBCCB35CFB87F8263F5786E2D80ED326CBC7F0E71A99F43BFB988B9B7A02DD21"},
	} {
		checkWrap(t, mustKey(t, upTo(c.size)), unhex(t, c.plain), unhex(t, c.out))
	}
}

// P2.6, P2.7: from MinWrap to MaxWrap, under keys of each size. From n = 43 on the steps' numbers have two bytes.
func TestWrapOfManyLengths(t *testing.T) {
	for _, size := range sizes {
		key := some(50, size)
		k := mustKey(t, key)
		for _, n := range []int{16, 24, 32, 40, 64, 8 * 42, 8 * 43, 512, 1000, 2048, 4088, 4096} {
			plain := some(int64(n), n)
			checkWrap(t, k, plain, wantWrap(t, key, plain))
		}
	}
}

// P2.6: the order of the errors: a length that is no multiple of 8 is short, even above MaxWrap.
func TestWrapLengths(t *testing.T) {
	k := mustKey(t, some(51, 16))
	for _, n := range []int{0, 1, 7, 8, 9, 15, 16, 17, 20, 23, 24, 4088, 4095, 4096, 4097, 4103, 4104, 4105, 4112, 1 << 16, 1<<16 + 1, 1 << 20} {
		want := api.OK
		switch {
		case n < 16 || n%8 != 0:
			want = api.ErrShort
		case n > 4096:
			want = api.ErrLong
		}
		out, e := rijndael.Wrap(k, make([]byte, n))
		if e != want || e == api.OK && len(out) != n+8 || e != api.OK && len(out) != 0 {
			t.Errorf("Wrap of %d bytes: %d bytes, error %d, not %d", n, len(out), e, want)
		}
	}
	if out, e := rijndael.Wrap(k, nil); len(out) != 0 || e != api.ErrShort {
		t.Errorf("Wrap(nil): %x, error %d", out, e)
	}
}

// P2.7: likewise, 8 bytes further on.
func TestUnwrapLengths(t *testing.T) {
	k := mustKey(t, some(52, 16))
	for _, n := range []int{0, 1, 8, 15, 16, 17, 23, 24, 25, 28, 31, 32, 4096, 4103, 4104, 4105, 4111, 4112, 4113, 4120, 1 << 16, 1<<16 + 1, 1 << 20} {
		want := api.ErrUnwrap
		switch {
		case n < 24 || n%8 != 0:
			want = api.ErrShort
		case n > 4104:
			want = api.ErrLong
		}
		if out, e := rijndael.Unwrap(k, make([]byte, n)); len(out) != 0 || e != want {
			t.Errorf("Unwrap of %d bytes: %d bytes, error %d, not %d", n, len(out), e, want)
		}
	}
	if out, e := rijndael.Unwrap(k, nil); len(out) != 0 || e != api.ErrShort {
		t.Errorf("Unwrap(nil): %x, error %d", out, e)
	}
}

// P2.7: each bit counts, as do the key and the order of the halves.
func TestUnwrapOfOtherBytes(t *testing.T) {
	for _, size := range sizes {
		key, plain := some(53, size), some(54, 32)
		k := mustKey(t, key)
		sealed, _ := rijndael.Wrap(k, plain)
		for bit := range 8 * len(sealed) {
			other := bytes.Clone(sealed)
			other[bit/8] ^= 1 << (bit % 8)
			checkUnwrapFails(t, k, other)
		}
		for bit := range 8 * size {
			other := bytes.Clone(key)
			other[bit/8] ^= 1 << (bit % 8)
			checkUnwrapFails(t, mustKey(t, other), sealed)
		}
		checkUnwrapFails(t, k, sealed[:32])
		checkUnwrapFails(t, k, append(bytes.Clone(sealed), 0, 0, 0, 0, 0, 0, 0, 0))
		checkUnwrapFails(t, k, append(bytes.Clone(sealed[8:]), sealed[:8]...))
		checkWrap(t, k, plain, sealed)
	}
}

// P2.7: the mark is held against all its 8 bytes: bytes whose A differs from it in one bit alone are refused.
func TestUnwrapMark(t *testing.T) {
	key := some(55, 32)
	k := mustKey(t, key)
	c, _ := aes.NewCipher(key)
	plain := some(56, 24)
	for bit := -1; bit < 64; bit++ {
		out := append(bytes.Repeat([]byte{0xa6}, 8), plain...)
		if bit >= 0 {
			out[bit/8] ^= 1 << (bit % 8)
		}
		for step := 1; step <= 18; step++ {
			i := (step-1)%3 + 1
			b := append(bytes.Clone(out[:8]), out[8*i:8*i+8]...)
			c.Encrypt(b, b)
			copy(out, b[:8])
			out[7] ^= byte(step)
			copy(out[8*i:], b[8:])
		}
		if _, right := wantUnwrap(t, key, out); right != (bit < 0) {
			t.Fatalf("bit %d: the test's own wrap is wrong", bit)
		}
		if bit < 0 {
			checkWrap(t, k, plain, out)
		} else {
			checkUnwrapFails(t, k, out)
		}
	}
}

// P2.7: of any bytes, what the steps give.
func TestUnwrapOfAnyBytes(t *testing.T) {
	key := some(57, 24)
	k := mustKey(t, key)
	for seed := range 300 {
		sealed := some(int64(seed), 24+8*(seed%20))
		plain, right := wantUnwrap(t, key, sealed)
		if right {
			checkWrap(t, k, plain, sealed)
		} else {
			checkUnwrapFails(t, k, sealed)
		}
	}
}

// P3: opening undoes sealing, of a sealed one too.
func TestWrapOfWraps(t *testing.T) {
	k, plain := mustKey(t, some(58, 16)), some(59, 16)
	all := [][]byte{plain}
	for i := range 100 {
		sealed, e := rijndael.Wrap(k, all[i])
		if e != api.OK || len(sealed) != len(all[i])+8 {
			t.Fatalf("Wrap %d: error %d", i, e)
		}
		all = append(all, sealed)
	}
	for i := 100; i > 0; i-- {
		if got, e := rijndael.Unwrap(k, all[i]); !bytes.Equal(got, all[i-1]) || e != api.OK {
			t.Errorf("Unwrap %d: error %d", i, e)
		}
	}
}

// P1: arguments are not kept, answers are memory of their own.
func TestWrapMemory(t *testing.T) {
	key, plain := some(60, 16), some(61, 64)
	k := mustKey(t, key)
	own := bytes.Clone(plain)
	one, _ := rijndael.Wrap(k, own)
	two, _ := rijndael.Wrap(k, own)
	overwrite(one)
	if !bytes.Equal(own, plain) || !bytes.Equal(two, wantWrap(t, key, plain)) {
		t.Errorf("Wrap's answers share memory")
	}
	back, _ := rijndael.Unwrap(k, two)
	overwrite(back)
	if !bytes.Equal(two, wantWrap(t, key, plain)) {
		t.Errorf("Unwrap's answer shares memory")
	}
	overwrite(own)
	checkWrap(t, k, plain, two)
}
