package rijndael_test

import (
	"testing"

	"coffer/rijndael"
)

// slowTimes multiplies as polynomials, and takes the rest of the division by x^8 + x^4 + x^3 + x + 1.
func slowTimes(a, b byte) byte {
	var p uint32
	for i := range 8 {
		if b>>i&1 == 1 {
			p ^= uint32(a) << i
		}
	}
	for i := 15; i >= 8; i-- {
		if p>>i&1 == 1 {
			p ^= 0x11b << (i - 8)
		}
	}
	return byte(p)
}

// slowS is S bit by bit, the inverse found by trying.
func slowS(b byte) byte {
	var y byte
	for x := range 256 {
		if slowTimes(b, byte(x)) == 1 {
			y = byte(x)
		}
	}
	var s byte
	for i := range 8 {
		bit := byte(0x63) >> i & 1
		for _, j := range []int{0, 4, 5, 6, 7} {
			bit ^= y >> ((i + j) % 8) & 1
		}
		s |= bit << i
	}
	return s
}

// P2.1
func TestFieldExamples(t *testing.T) {
	if got := rijndael.Times(0x57, 0x83); got != 0xc1 {
		t.Errorf("Times(57, 83): %02X", got)
	}
	if got := rijndael.SBox(0x53); got != 0xed {
		t.Errorf("SBox(53): %02X", got)
	}
	if got := rijndael.InvSBox(0xed); got != 0x53 {
		t.Errorf("InvSBox(ED): %02X", got)
	}
	if got := rijndael.SBox(0); got != 0x63 {
		t.Errorf("SBox(0): %02X", got)
	}
}

// P2.1
func TestTimesOfAllPairs(t *testing.T) {
	for a := range 256 {
		for b := range 256 {
			if got, want := rijndael.Times(byte(a), byte(b)), slowTimes(byte(a), byte(b)); got != want {
				t.Fatalf("Times(%02X, %02X): %02X, not %02X", a, b, got, want)
			}
		}
	}
}

// P2.1
func TestSBoxOfAllBytes(t *testing.T) {
	for i := range 256 {
		b := byte(i)
		s := slowS(b)
		if got := rijndael.SBox(b); got != s {
			t.Errorf("SBox(%02X): %02X, not %02X", b, got, s)
		}
		if got := rijndael.InvSBox(s); got != b {
			t.Errorf("InvSBox(%02X): %02X, not %02X", s, got, b)
		}
	}
}
