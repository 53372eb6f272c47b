package tweak

import (
	"math"
	"math/bits"

	"coffer/api"
	"coffer/digest"
)

// begin tells the initial block of a sector of n bytes.
type begin func(sector uint64, n int) api.Block

func beginNull(*shared) begin {
	return func(uint64, int) api.Block { return api.Block{} }
}

func beginPlain(*shared) begin {
	return func(sector uint64, _ int) api.Block { return little(0, sector&math.MaxUint32) }
}

func beginPlain64(*shared) begin {
	return func(sector uint64, _ int) api.Block { return little(0, sector) }
}

func beginPlain64BE(*shared) begin {
	return func(sector uint64, _ int) api.Block { return big(0, sector) }
}

func beginBenbi(*shared) begin {
	return func(sector uint64, n int) api.Block {
		high, low := bits.Mul64(sector, uint64(n/api.BlockSize))
		return big(add(high, low, 1))
	}
}

func beginESSIV(s *shared) begin {
	sum, _ := digest.Sum(api.Hash256, s.key)
	k := s.schedule(sum)
	return func(sector uint64, _ int) api.Block { return under(k, little(0, sector)) }
}

func beginEBOIV(s *shared) begin {
	return func(sector uint64, n int) api.Block { return s.encrypt(firstByte(sector, n)) }
}

func beginTCW(s *shared) begin {
	return func(sector uint64, _ int) api.Block { return xor(cut(s.rest(), 0), twice(sector)) }
}

// firstByte tells the place of a sector's first byte.
func firstByte(sector uint64, n int) api.Block {
	return little(bits.Mul64(sector, uint64(n)))
}

// twice tells a sector's number, lowest byte first, in both halves of a block.
func twice(sector uint64) api.Block { return little(sector, sector) }
