package rijndael_test

import (
	"bytes"
	"crypto/aes"
	"crypto/cipher"
	"math"
	"math/big"
	"math/rand"
	"testing"

	"coffer/api"
	"coffer/rijndael"
)

func mustStream(t *testing.T, k *rijndael.Key, start api.Block) *rijndael.Stream {
	t.Helper()
	s, e := k.Stream(start)
	if s == nil || e != api.OK {
		t.Fatalf("Stream(%x): error %d", start, e)
	}
	return s
}

// wantStream is data, xor the bytes of the library's own counter mode behind skipped ones.
func wantStream(t *testing.T, key []byte, start api.Block, skipped int, data []byte) []byte {
	t.Helper()
	c, err := aes.NewCipher(key)
	if err != nil {
		t.Fatal(err)
	}
	all := append(make([]byte, skipped), data...)
	cipher.NewCTR(c, start[:]).XORKeyStream(all, all)
	return all[skipped:]
}

// ahead tells start + n modulo 2^128, by numbers without bound.
func ahead(start api.Block, n uint64) api.Block {
	sum := new(big.Int).SetBytes(start[:])
	sum.Add(sum, new(big.Int).SetUint64(n))
	sum.Mod(sum, new(big.Int).Lsh(big.NewInt(1), 128))
	var b api.Block
	sum.FillBytes(b[:])
	return b
}

func checkXOR(t *testing.T, s *rijndael.Stream, data, want []byte) {
	t.Helper()
	at := s.At()
	kept := bytes.Clone(data)
	got, e := s.XOR(data)
	if !bytes.Equal(got, want) || e != api.OK {
		t.Errorf("XOR of %d bytes at %d: error %d, %x, not %x", len(data), at, e, head(got), head(want))
	}
	if s.At() != at+uint64(len(data)) {
		t.Errorf("XOR of %d bytes: from %d to %d", len(data), at, s.At())
	}
	if !bytes.Equal(data, kept) {
		t.Errorf("XOR changed its argument")
	}
}

func head(b []byte) []byte { return b[:min(len(b), 64)] }

func checkSkip(t *testing.T, s *rijndael.Stream, n uint64, want api.Errno, at uint64) {
	t.Helper()
	if e := s.Skip(n); e != want || s.At() != at {
		t.Errorf("Skip(%d): error %d, At %d, not error %d, At %d", n, e, s.At(), want, at)
	}
}

// P2.5, the fifth example; and all four blocks of its source, under keys of each size.
func TestStreamExamples(t *testing.T) {
	start := unblock(t, "F0 F1 F2 F3 F4 F5 F6 F7 F8 F9 FA FB FC FD FE FF")
	k := mustKey(t, unhex(t, "2B 7E 15 16 28 AE D2 A6 AB F7 15 88 09 CF 4F 3C"))
	s := mustStream(t, k, start)
	if s.At() != 0 {
		t.Errorf("At of a new stream: %d", s.At())
	}
	checkXOR(t, s, unhex(t, "6B C1 BE E2 2E 40 9F 96 E9 3D 7E 11 73 93 17 2A"),
		unhex(t, "87 4D 61 91 B6 20 E3 26 1B EF 68 64 99 0D B6 CE"))
	plain := unhex(t, "6bc1bee22e409f96e93d7e117393172aae2d8a571e03ac9c9eb76fac45af8e5130c81c46a35ce411e5fbc1191a0a52eff69f2445df4f9b17ad2b417be66c3710")
	for _, c := range []struct{ key, out string }{
		{"2b7e151628aed2a6abf7158809cf4f3c", "874d6191b620e3261bef6864990db6ce9806f66b7970fdff8617187bb9fffdff5ae4df3edbd5d35e5b4f09020db03eab1e031dda2fbe03d1792170a0f3009cee"},
		{"8e73b0f7da0e6452c810f32b809079e562f8ead2522c6b7b", "1abc932417521ca24f2b0459fe7e6e0b090339ec0aa6faefd5ccc2c6f4ce8e941e36b26bd1ebc670d1bd1d665620abf74f78a7f6d29809585a97daec58c6b050"},
		{"603deb1015ca71be2b73aef0857d77811f352c073b6108d72d9810a30914dff4", "601ec313775789a5b7a7f504bbf3d228f443e3ca4d62b59aca84e990cacaf5c52b0930daa23de94ce87017ba2d84988ddfc9c58db67aada613c2dd08457941a6"},
	} {
		checkXOR(t, mustStream(t, mustKey(t, unhex(t, c.key)), start), plain, unhex(t, c.out))
	}
}

// P2.5: any cuts give the same bytes, with bytes left out between them.
func TestStreamCuts(t *testing.T) {
	key, start, data := some(20, 24), api.Block(some(21, 16)), some(22, 100)
	k := mustKey(t, key)
	want := wantStream(t, key, start, 0, data)
	for one := range 50 {
		for two := range 50 {
			s := mustStream(t, k, start)
			checkXOR(t, s, data[:one], want[:one])
			checkXOR(t, s, data[one:one+two], want[one:one+two])
			checkXOR(t, s, data[one+two:], want[one+two:])
			s = mustStream(t, k, start)
			checkSkip(t, s, uint64(one), api.OK, uint64(one))
			checkXOR(t, s, data[one:one+two], want[one:one+two])
			checkSkip(t, s, 1, api.OK, uint64(one+two+1))
			checkXOR(t, s, data[one+two+1:], want[one+two+1:])
		}
	}
}

// P2.5: the count goes on beyond each byte, beyond 2^64, and round at 2^128.
func TestStreamCountsOn(t *testing.T) {
	key := some(23, 32)
	k := mustKey(t, key)
	var starts []api.Block
	for n := range 17 {
		var b api.Block
		for i := range n {
			b[15-i] = 0xff
		}
		starts = append(starts, b, ahead(b, 1<<64-3), ahead(b, math.MaxUint64))
	}
	data := some(24, 80)
	for _, start := range starts {
		checkXOR(t, mustStream(t, k, start), data, wantStream(t, key, start, 0, data))
		s := mustStream(t, k, start)
		checkSkip(t, s, 21, api.OK, 21)
		checkXOR(t, s, data, wantStream(t, key, start, 21, data))
	}
	last := api.Block(bytes.Repeat([]byte{0xff}, 16))
	zero := wantBlock(t, key, api.Block{})
	s := mustStream(t, k, last)
	checkSkip(t, s, 16, api.OK, 16)
	checkXOR(t, s, make([]byte, 16), zero[:])
}

// P2.5: far in a stream its blocks are those that the count gives.
func TestStreamFar(t *testing.T) {
	key := some(25, 16)
	k := mustKey(t, key)
	for _, start := range []api.Block{{}, api.Block(some(26, 16)), ahead(api.Block{}, 1<<64-1<<35), api.Block(bytes.Repeat([]byte{0xff}, 16))} {
		for _, n := range []uint64{1, 1<<16 - 1, 1 << 16, 1<<28 - 1, 1 << 28, 1<<32 + 5, 1 << 35, 1<<36 - 2} {
			s := mustStream(t, k, start)
			checkSkip(t, s, 16*n+3, api.OK, 16*n+3)
			one, two := wantBlock(t, key, ahead(start, n)), wantBlock(t, key, ahead(start, n+1))
			checkXOR(t, s, make([]byte, 29), append(one[3:], two[:]...))
		}
	}
}

// P2.5: MaxXOR bytes at once, and one more.
func TestStreamMaxXOR(t *testing.T) {
	key, start, data := some(27, 16), api.Block(some(28, 16)), some(29, 1<<20+1)
	k := mustKey(t, key)
	s := mustStream(t, k, start)
	checkRefusedXOR(t, s, data, api.ErrLong)
	checkSkip(t, s, 5, api.OK, 5)
	checkRefusedXOR(t, s, data, api.ErrLong)
	want := wantStream(t, key, start, 5, data[:1<<20])
	checkXOR(t, s, data[:1<<20], want)
	checkRefusedXOR(t, s, make([]byte, 1<<22), api.ErrLong)
	checkXOR(t, s, data[:40], wantStream(t, key, start, 5+1<<20, data[:40]))
}

func checkRefusedXOR(t *testing.T, s *rijndael.Stream, data []byte, want api.Errno) {
	t.Helper()
	at := s.At()
	if got, e := s.XOR(data); len(got) != 0 || e != want || s.At() != at {
		t.Errorf("XOR of %d bytes at %d: %d bytes, error %d, At %d", len(data), at, len(got), e, s.At())
	}
}

// P2.5: up to MaxStream and not beyond; sums are reckoned without bound; what is refused changes nothing.
func TestStreamEnd(t *testing.T) {
	const end = 1 << 40
	key, start := some(30, 32), api.Block(some(31, 16))
	k := mustKey(t, key)
	s := mustStream(t, k, start)
	for _, n := range []uint64{end + 1, 1 << 63, math.MaxUint64} {
		checkSkip(t, s, n, api.ErrLong, 0)
	}
	checkSkip(t, s, end-20, api.OK, end-20)
	for _, n := range []uint64{21, end, 1 << 63, math.MaxUint64 - end + 20, math.MaxUint64 - end + 21, math.MaxUint64 - 20, math.MaxUint64} {
		checkSkip(t, s, n, api.ErrLong, end-20)
	}
	checkRefusedXOR(t, s, make([]byte, 21), api.ErrLong)
	checkRefusedXOR(t, s, make([]byte, 1<<20), api.ErrLong)
	one, two := wantBlock(t, key, ahead(start, 1<<36-2)), wantBlock(t, key, ahead(start, 1<<36-1))
	checkXOR(t, s, make([]byte, 19), append(one[12:], two[:15]...))
	checkRefusedXOR(t, s, make([]byte, 2), api.ErrLong)
	checkSkip(t, s, 2, api.ErrLong, end-1)
	checkXOR(t, s, make([]byte, 1), two[15:])
	checkXOR(t, s, nil, nil)
	checkSkip(t, s, 0, api.OK, end)
	checkRefusedXOR(t, s, []byte{0}, api.ErrLong)
	for _, n := range []uint64{1, math.MaxUint64 - end + 1, math.MaxUint64} {
		checkSkip(t, s, n, api.ErrLong, end)
	}
	s = mustStream(t, k, start)
	checkSkip(t, s, end, api.OK, end)
}

// P2.5: many calls, of any lengths.
func TestStreamLong(t *testing.T) {
	for _, n := range sizes {
		key, start, data := some(32, n), api.Block(some(33, 16)), some(34, 1<<18)
		want := wantStream(t, key, start, 0, data)
		s := mustStream(t, mustKey(t, key), start)
		r := rand.New(rand.NewSource(35))
		for at := 0; at < len(data); {
			next := min(len(data), at+r.Intn(5000))
			if r.Intn(3) == 0 {
				checkSkip(t, s, uint64(next-at), api.OK, uint64(next))
			} else {
				checkXOR(t, s, data[at:next], want[at:next])
			}
			at = next
		}
	}
}

// P2.5: a nil stream.
func TestNilStream(t *testing.T) {
	var s *rijndael.Stream
	checkRefusedXOR(t, s, nil, api.ErrNil)
	checkRefusedXOR(t, s, make([]byte, 1<<20+1), api.ErrNil)
	checkSkip(t, s, 0, api.ErrNil, 0)
	checkSkip(t, s, math.MaxUint64, api.ErrNil, 0)
}

// P2.4: the streams of a key that was wiped, those at their end too.
func TestStreamsOfWipedKey(t *testing.T) {
	k := mustKey(t, some(36, 32))
	fresh, used, ended := mustStream(t, k, api.Block{}), mustStream(t, k, api.Block{}), mustStream(t, k, api.Block{})
	used.XOR(make([]byte, 7))
	ended.Skip(1 << 40)
	if e := k.Wipe(); e != api.OK {
		t.Fatalf("Wipe: error %d", e)
	}
	for i, s := range []*rijndael.Stream{fresh, used, ended} {
		at := []uint64{0, 7, 1 << 40}[i]
		checkRefusedXOR(t, s, nil, api.ErrWiped)
		checkRefusedXOR(t, s, []byte{1}, api.ErrWiped)
		checkRefusedXOR(t, s, make([]byte, 1<<20+1), api.ErrWiped)
		checkSkip(t, s, 0, api.ErrWiped, at)
		checkSkip(t, s, 1, api.ErrWiped, at)
		checkSkip(t, s, math.MaxUint64, api.ErrWiped, at)
	}
}

// P1: streams of one key go each its own way.
func TestStreamsAreTheirOwn(t *testing.T) {
	key, data := some(37, 24), some(38, 64)
	k := mustKey(t, key)
	var all []*rijndael.Stream
	for i := range 4 {
		all = append(all, mustStream(t, k, api.Block{0: byte(i / 2)}))
	}
	for round := range 4 {
		for i, s := range all {
			from := 13 * round
			checkXOR(t, s, data[from:from+13], wantStream(t, key, api.Block{0: byte(i / 2)}, from, data[from:from+13]))
		}
		checkBlock(t, k, api.Block{9}, wantBlock(t, key, api.Block{9}))
	}
}

// P1: data is not kept, an answer is memory of its own.
func TestStreamMemory(t *testing.T) {
	key, start, data := some(39, 16), api.Block(some(40, 16)), some(41, 50)
	want := wantStream(t, key, start, 0, append(bytes.Clone(data), data...))
	s := mustStream(t, mustKey(t, key), start)
	own := bytes.Clone(data)
	one, _ := s.XOR(own)
	overwrite(own)
	two, _ := s.XOR(data)
	if !bytes.Equal(one, want[:50]) || !bytes.Equal(two, want[50:]) {
		t.Errorf("data is kept")
	}
	overwrite(one)
	if !bytes.Equal(own, spoilt(data)) || !bytes.Equal(two, want[50:]) {
		t.Errorf("answers share memory")
	}
}
