package spring_test

import (
	"bytes"
	"encoding/hex"
	"math/big"
	"testing"

	"coffer/spring"
)

func unhex(t *testing.T, s string) []byte {
	t.Helper()
	b, err := hex.DecodeString(s)
	if err != nil {
		t.Fatal(err)
	}
	return b
}

// P6.1, P6.2, P2: a published answer of the HMAC_DRBG (SHA-256, no prediction resistance): the second of two draws is told.
func TestPublishedDraws(t *testing.T) {
	s := mustNew(t, 256, 2,
		unhex(t, "ca851911349384bffe89de1cbdc46e6831e44d34a4fb935ee285dd14b71a7488"),
		unhex(t, "659ba96c601dc69fc902940805ec0ca8"), nil)
	mustDraw(t, s, 128)
	want := unhex(t, "e528e9abf2dece54d47c7e75e5fe302149f817ea9fb4bee6f4199697d04d5b89d54fbb978a15b5c443c9ec21036d2460b6f73ebad0dc2aba6e624abf07745bc1"+
		"07694bb7547bb0995f70de25d6b29e2d3011bb19d27676c07162c8b5ccde0668961df86803482cb37ed6d5c0bb8d50cf1f50d476aa0458bdaba806f48be9dcb8")
	if got := mustDraw(t, s, 128); !bytes.Equal(got, want) {
		t.Errorf("%x", got)
	}
}

// P6.1, P6.2, P2: RFC 6979 draws a signature's number from the same generator, fed with the key and the message's digest: its table for the curve P-256.
func TestPublishedNumbers(t *testing.T) {
	key := unhex(t, "c9afa9d845ba75166b5c215767b1d6934e50c3db36e89b127b8a622b120f6721")
	order, _ := new(big.Int).SetString("ffffffff00000000ffffffffffffffffbce6faada7179e84f3b9cac2fc632551", 16)
	for _, c := range []struct {
		bits          int
		message, want string
	}{
		{224, "sample", "103f90ee9dc52e5e7fb5132b7033c63066d194321491862059967c715985d473"},
		{256, "sample", "a6e3c57dd01abe90086538398355dd4c3b17aa873382b0f24d6129493d8aad60"},
		{384, "sample", "09f634b188cefd98e7ec88b1aa9852d734d0bc272f7d2a47decc6ebeb375aad4"},
		{512, "sample", "5fa81c63109badb88c1f367b47da606da28cad69aa22c4fe6ad7df73a7173aa5"},
		{224, "test", "669f4426f2688b8be0db3a6bd1989bdaefff84b649eeb84f3dd26080f667faa7"},
		{256, "test", "d16b6ae827f17175e040871a1c7ec3500192c4c92677336ec2537acaee0008e0"},
		{384, "test", "16aeffa357260b04b1dd199693960740066c1a8f3e8edd79070aa914d361b3b8"},
		{512, "test", "6915d11632aca3c40d5d51c08daf9c555933819548784480e93499000d9f0b7f"},
	} {
		h := libraryHash(c.bits)()
		h.Write([]byte(c.message))
		sum := h.Sum(nil)
		number := new(big.Int).SetBytes(sum[:min(len(sum), 32)])
		nonce := number.Mod(number, order).FillBytes(make([]byte, 32))
		s, e := spring.New(c.bits, 1, key, nonce, nil)
		if e != 0 {
			t.Fatalf("%d: error %d", c.bits, e)
		}
		if got := mustDraw(t, s, 32); !bytes.Equal(got, unhex(t, c.want)) {
			t.Errorf("%d, %s: %x", c.bits, c.message, got)
		}
	}
}
