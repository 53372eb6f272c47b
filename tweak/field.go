package tweak

import "coffer/api"

// poly is a polynomial over two elements, below x^128: bit k of low is the coefficient of x^k, of high that of x^(64 + k).
type poly struct{ high, low uint64 }

// timesX is the product with x modulo x^128 + x^7 + x^2 + x + 1.
func (p poly) timesX() poly {
	over := p.high >> 63
	return poly{p.high<<1 | p.low>>63, p.low<<1 ^ 0x87*over}
}

// overX is the quotient by x modulo x^128 + x^127 + x^126 + x^121 + 1.
func (p poly) overX() poly {
	odd := p.low & 1
	return poly{p.high>>1 ^ 0xE1<<56*odd, p.high<<63 | p.low>>1}
}

// plus adds q if bit is 1, and leaves p if it is 0.
func (p poly) plus(q poly, bit uint64) poly {
	return poly{p.high ^ q.high*bit, p.low ^ q.low*bit}
}

// bit tells the coefficient of x^k.
func (p poly) bit(k int) uint64 {
	if k < 64 {
		return p.low >> k & 1
	}
	return p.high >> (k - 64) & 1
}

func polyLittle(b api.Block) poly {
	high, low := fromLittle(b)
	return poly{high, low}
}

func polyBig(b api.Block) poly {
	high, low := fromBig(b)
	return poly{high, low}
}

// Double is the product with x in the field of XTS.
func Double(b api.Block) api.Block {
	p := polyLittle(b).timesX()
	return little(p.high, p.low)
}

// Times is the product in the field of LRW.
func Times(a, b api.Block) api.Block {
	if isZero(a) || isZero(b) {
		return api.Block{}
	}
	p, q := polyBig(a), polyBig(b)
	var sum poly
	for k := 127; k >= 0; k-- {
		sum = sum.timesX().plus(p, q.bit(k))
	}
	return big(sum.high, sum.low)
}

// Dot is the product of POLYVAL.
func Dot(a, b api.Block) api.Block {
	if isZero(a) || isZero(b) {
		return api.Block{}
	}
	p, q := polyLittle(a), polyLittle(b)
	var sum poly
	for k := range 128 {
		sum = sum.plus(p, q.bit(k)).overX()
	}
	return little(sum.high, sum.low)
}

// isZero spares the products that are known.
func isZero(b api.Block) bool { return b == api.Block{} }

// Polyval is the hash of blocks under h.
func Polyval(h api.Block, blocks ...api.Block) api.Block {
	var sum api.Block
	for _, b := range blocks {
		sum = Dot(xor(sum, b), h)
	}
	return sum
}
