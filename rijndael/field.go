package rijndael

import "math/bits"

const (
	folded    = 0x1b // what x^8 is, less than x^8, modulo the field's polynomial
	generator = 3    // its powers are all the elements but 0
	undoing   = 0xf6 // generator's inverse
	affine    = 0x63 // what S adds last
	unaffine  = 0x05 // and what that is for its inverse
)

// rcon holds the first bytes of the schedule's Rcon(1), Rcon(2), ..: a key of 16 bytes asks for ten, the longer ones for less.
var rcon = powersOfX()

// powersOfX reckons 1, x, x^2, .. in the field.
func powersOfX() [10]byte {
	var p [10]byte
	p[0] = 1
	for i := 1; i < len(p); i++ {
		p[i] = double(p[i-1])
	}
	return p
}

// double multiplies by x. No branch and no table: its time tells nothing of a.
func double(a byte) byte {
	return a<<1 ^ folded&-(a>>7)
}

// Times is the product in the field of 256 elements.
func Times(a, b byte) byte {
	var product byte
	for range 8 {
		product ^= a & -(b & 1)
		a = double(a)
		b >>= 1
	}
	return product
}

// inverse tells a's inverse as a^254, which is 0 of 0 by itself: a^255 is 1 of all the others.
func inverse(a byte) byte {
	power := byte(1)
	for range 7 {
		a = Times(a, a)
		power = Times(power, a)
	}
	return power
}

// spread is the part of S behind the inverse.
func spread(y byte) byte {
	return y ^ bits.RotateLeft8(y, 1) ^ bits.RotateLeft8(y, 2) ^ bits.RotateLeft8(y, 3) ^ bits.RotateLeft8(y, 4) ^ affine
}

// gather undoes spread.
func gather(b byte) byte {
	return bits.RotateLeft8(b, 1) ^ bits.RotateLeft8(b, 3) ^ bits.RotateLeft8(b, 6) ^ unaffine
}

// SBox is the substitution of a byte.
func SBox(b byte) byte { return spread(inverse(b)) }

// InvSBox is its inverse.
func InvSBox(b byte) byte { return inverse(gather(b)) }
