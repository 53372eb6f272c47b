package tweak_test

import (
	"bytes"
	"crypto/aes"
	"crypto/cipher"
	"crypto/sha256"
	"encoding/hex"
	"hash/crc32"
	"math/big"
	"math/bits"
	"strings"
	"testing"

	"coffer/api"
	"coffer/tweak"
)

// The model: the chapter's words once more, with the library's AES, its chains of blocks and its long numbers. Blocks are lists here.

func unhex(s string) []byte {
	b, err := hex.DecodeString(s)
	if err != nil {
		panic(err)
	}
	return b
}

// some gives n bytes that no rule of the ciphers makes.
func some(seed, n int) []byte {
	var out []byte
	for i := 0; len(out) < n; i++ {
		sum := sha256.Sum256([]byte{byte(seed), byte(seed >> 8), byte(i)})
		out = append(out, sum[:]...)
	}
	return out[:n:n]
}

func number(v uint64) *big.Int { return new(big.Int).SetUint64(v) }

func product(a uint64, b int) *big.Int {
	return new(big.Int).Mul(number(a), big.NewInt(int64(b)))
}

func reversed(b []byte) []byte {
	out := make([]byte, len(b))
	for i := range b {
		out[len(b)-1-i] = b[i]
	}
	return out
}

func modelBE(v *big.Int) []byte { return v.FillBytes(make([]byte, 16)) }

func modelLE(v *big.Int) []byte { return reversed(modelBE(v)) }

func fromBE(b []byte) *big.Int { return new(big.Int).SetBytes(b) }

func fromLE(b []byte) *big.Int { return fromBE(reversed(b)) }

func sum(a, b []byte) []byte {
	out := make([]byte, len(a))
	for i := range a {
		out[i] = a[i] ^ b[i]
	}
	return out
}

func join(parts ...[]byte) []byte { return bytes.Join(parts, nil) }

func must(key []byte) cipher.Block {
	c, err := aes.NewCipher(key)
	if err != nil {
		panic(err)
	}
	return c
}

func modelE(key, b []byte) []byte {
	out := make([]byte, 16)
	must(key).Encrypt(out, b)
	return out
}

// powers gives the polynomial that has these powers of x.
func powers(list ...int) *big.Int {
	p := new(big.Int)
	for _, k := range list {
		p.SetBit(p, k, 1)
	}
	return p
}

func polyTimes(a, b *big.Int) *big.Int {
	out := new(big.Int)
	for k := range b.BitLen() {
		if b.Bit(k) == 1 {
			out.Xor(out, new(big.Int).Lsh(a, uint(k)))
		}
	}
	return out
}

func polyModulo(a, m *big.Int) *big.Int {
	out := new(big.Int).Set(a)
	for out.BitLen() >= m.BitLen() {
		out.Xor(out, new(big.Int).Lsh(m, uint(out.BitLen()-m.BitLen())))
	}
	return out
}

func fieldXTS() *big.Int { return powers(128, 7, 2, 1, 0) }

func fieldPolyval() *big.Int { return powers(128, 127, 126, 121, 0) }

func modelDouble(b []byte) []byte {
	return modelLE(polyModulo(polyTimes(fromLE(b), powers(1)), fieldXTS()))
}

func modelTimes(a, b []byte) []byte {
	return modelBE(polyModulo(polyTimes(fromBE(a), fromBE(b)), fieldXTS()))
}

// modelDot multiplies with what x^128 is undone by.
func modelDot(a, b []byte) []byte {
	undo := powers(127, 124, 121, 114, 0)
	return modelLE(polyModulo(polyTimes(polyModulo(polyTimes(fromLE(a), fromLE(b)), fieldPolyval()), undo), fieldPolyval()))
}

func modelPolyval(h []byte, list []byte) []byte {
	out := make([]byte, 16)
	for at := 0; at < len(list); at += 16 {
		out = modelDot(sum(out, list[at:at+16]), h)
	}
	return out
}

// parts of a name: AES' bytes, the mode, how a sector begins.
func nameParts(spec string) (width int, mode, first string) {
	p := strings.SplitN(spec, "-", 3)
	width = map[string]int{"aes128": 16, "aes192": 24, "aes256": 32}[p[0]]
	if width > 0 {
		mode = p[1]
	}
	if len(p) == 3 {
		first = p[2]
	}
	return width, mode, first
}

// mayBeOdd tells whether a cipher takes sectors that are no multiple of 16 bytes.
func mayBeOdd(spec string) bool {
	_, mode, _ := nameParts(spec)
	return spec == "null" || mode == "xts" || mode == "hctr2"
}

func modelIV(spec string, key []byte, s uint64, n int) []byte {
	width, _, first := nameParts(spec)
	twice := join(modelLE(number(s))[:8], modelLE(number(s))[:8])
	switch first {
	case "null":
		return make([]byte, 16)
	case "plain":
		return modelLE(number(s % (1 << 32)))
	case "plain64":
		return modelLE(number(s))
	case "plain64be":
		return modelBE(number(s))
	case "benbi":
		return modelBE(new(big.Int).Add(product(s, n/16), big.NewInt(1)))
	case "essiv:sha256":
		y := sha256.Sum256(key)
		return modelE(y[:], modelLE(number(s)))
	case "eboiv", "elephant":
		return modelE(key[:width], modelLE(product(s, n)))
	case "tcw":
		return sum(key[width:width+16], twice)
	}
	return nil
}

func modelSeal(spec string, key []byte, s uint64, plain []byte) []byte {
	width, mode, first := nameParts(spec)
	iv := modelIV(spec, key, s, len(plain))
	k, rest := key[:width], key[width:]
	switch {
	case mode == "ecb":
		var out []byte
		for at := 0; at < len(plain); at += 16 {
			out = append(out, modelE(k, plain[at:at+16])...)
		}
		return out
	case first == "elephant":
		return modelCBC(k, iv, modelMixed(rest, s, plain))
	case first == "tcw":
		return modelWhite(rest[16:], s, modelCBC(k, iv, plain))
	case mode == "cbc":
		return modelCBC(k, iv, plain)
	case mode == "xts":
		return modelXTS(k, rest, iv, plain)
	case mode == "lrw":
		return modelLRW(k, rest, iv, plain)
	case mode == "hctr2":
		return modelHCTR2(k, join(iv, make([]byte, 16)), plain)
	}
	return plain
}

func modelCBC(k, iv, plain []byte) []byte {
	out := make([]byte, len(plain))
	cipher.NewCBCEncrypter(must(k), iv).CryptBlocks(out, plain)
	return out
}

func modelMixed(z []byte, s uint64, plain []byte) []byte {
	place := modelLE(product(s, len(plain)))
	low := modelE(z, place)
	place[15] = 128
	high := modelE(z, place)
	text := bytes.Clone(plain)
	for i := range text {
		text[i] ^= join(low, high)[i%32]
	}
	m := len(text) / 4
	d := make([]uint32, m)
	for i := range d {
		d[i] = uint32(fromLE(text[4*i : 4*i+4]).Uint64())
	}
	for range 5 {
		for i := m - 1; i >= 0; i-- {
			d[i] -= d[(i-2+5*m)%m] ^ bits.RotateLeft32(d[(i-5+5*m)%m], []int{9, 0, 13, 0}[i%4])
		}
	}
	for range 3 {
		for i := m - 1; i >= 0; i-- {
			d[i] -= d[(i+2)%m] ^ bits.RotateLeft32(d[(i+5)%m], []int{0, 10, 0, 25}[i%4])
		}
	}
	for i := range d {
		copy(text[4*i:], modelLE(number(uint64(d[i])))[:4])
	}
	return text
}

func modelWhite(w []byte, s uint64, sealed []byte) []byte {
	v := sum(w, join(modelLE(number(s))[:8], modelLE(number(s))[:8]))
	var r [4]uint32
	for i := range r { // the library turns the register round at both ends
		r[i] = ^crc32.Update(^uint32(0), crc32.IEEETable, v[4*i:4*i+4])
	}
	white := join(modelLE(number(uint64(r[0] ^ r[3])))[:4], modelLE(number(uint64(r[1] ^ r[2])))[:4])
	out := bytes.Clone(sealed)
	for i := range out {
		out[i] ^= white[i%8]
	}
	return out
}

func modelXTS(k, z, iv, plain []byte) []byte {
	whole, r := len(plain)/16, len(plain)%16
	t := [][]byte{modelE(z, iv)}
	for range whole {
		t = append(t, modelDouble(t[len(t)-1]))
	}
	x := func(j int, b []byte) []byte { return sum(modelE(k, sum(b, t[j])), t[j]) }
	var out []byte
	for j := range whole {
		out = append(out, x(j, plain[16*j:16*j+16])...)
	}
	if r == 0 {
		return out
	}
	ahead, q := out[:16*whole-16], out[16*whole-16:]
	return join(ahead, x(whole, join(plain[16*whole:], q[r:])), q[:r])
}

func modelLRW(k, f, iv, plain []byte) []byte {
	var out []byte
	for j := range len(plain) / 16 {
		t := modelTimes(f, modelBE(new(big.Int).Add(fromBE(iv), big.NewInt(int64(j)))))
		out = append(out, sum(modelE(k, sum(plain[16*j:16*j+16], t)), t)...)
	}
	return out
}

// modelHCTR2 takes any two blocks as t.
func modelHCTR2(k, t, plain []byte) []byte {
	h, l := modelE(k, modelLE(number(0))), modelE(k, modelLE(number(1)))
	hash := func(n []byte) []byte {
		if len(n)%16 == 0 {
			return modelPolyval(h, join(modelLE(number(514)), t, n))
		}
		return modelPolyval(h, join(modelLE(number(515)), t, n, []byte{1}, make([]byte, 15-len(n)%16)))
	}
	mm := sum(plain[:16], hash(plain[16:]))
	uu := modelE(k, mm)
	s := sum(sum(mm, uu), l)
	var stream []byte
	for i := uint64(1); len(stream) < len(plain); i++ {
		stream = append(stream, modelE(k, sum(s, modelLE(number(i))))...)
	}
	v := sum(plain[16:], stream)
	return join(sum(uu, hash(v)), v)
}

// mustCipher makes a cipher that can be made.
func mustCipher(t *testing.T, spec string, key []byte) *tweak.Cipher {
	t.Helper()
	c, e := tweak.New(spec, key)
	if c == nil || e != api.OK {
		t.Fatalf("New(%s, %d bytes): error %d", spec, len(key), e)
	}
	return c
}

// keyOf gives a key for a name.
func keyOf(t *testing.T, spec string, seed int) []byte {
	t.Helper()
	n, e := tweak.KeySize(spec)
	if e != api.OK {
		t.Fatalf("KeySize(%s): error %d", spec, e)
	}
	return some(seed, n)
}

// The model against vectors that others have published (with another t than the chapter's, which the calls can't be given).
func TestModelHCTR2(t *testing.T) {
	got := modelHCTR2(unhex("e115663c8dc63affef41d747a2cc8aba"),
		unhex("c3be2acbb53986f191ad6cf4de7445635c7ad5cc8b76ef0ecf2c606937fd0796"),
		unhex("6575aed3e2bc435cb31ad805c3d05629"))
	if want := unhex("1191ea7458ccd5a2d0559e3dfe7fc8fe"); !bytes.Equal(got, want) {
		t.Errorf("%x, not %x", got, want)
	}
}
