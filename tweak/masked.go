package tweak

import (
	"coffer/api"
	"coffer/rijndael"
)

// masked does the blocks of a list, with mask j laid over what goes into block j and over what comes out. Bytes behind the last whole block are filled up with what they steal of it, and go under one more mask.
func masked(list []byte, masks []api.Block, do func(api.Block) api.Block) []byte {
	mask := func(j int, b api.Block) api.Block { return xor(do(xor(b, masks[j])), masks[j]) }
	out := blockwise(list, mask)
	whole := len(list) / api.BlockSize
	if rest := list[whole*api.BlockSize:]; len(rest) > 0 {
		b := cut(out, whole-1)
		copy(out[whole*api.BlockSize:], b[:])
		copy(b[:], rest)
		lay(out, whole-1, mask(whole, b))
	}
	return out
}

// xts masks with a sealed block that is doubled from one place to the next.
type xts struct {
	*shared
	first begin
	other *rijndael.Key
}

func newXTS(s *shared, first begin) (seal, open change) {
	m := xts{s, first, s.schedule(s.rest())}
	return m.seal, m.open
}

func (m xts) seal(sector uint64, plain []byte) []byte {
	return masked(plain, m.masks(sector, len(plain)), m.encrypt)
}

func (m xts) open(sector uint64, sealed []byte) []byte {
	masks := m.masks(sector, len(sealed))
	if len(sealed)%api.BlockSize != 0 { // what was done last is undone first
		last := len(masks) - 1
		masks[last-1], masks[last] = masks[last], masks[last-1]
	}
	return masked(sealed, masks, m.decrypt)
}

// masks tells one for each block of a sector of n bytes, one that is not full among them.
func (m xts) masks(sector uint64, n int) []api.Block {
	masks := make([]api.Block, (n+api.BlockSize-1)/api.BlockSize)
	next := under(m.other, m.first(sector, n))
	for j := range masks {
		masks[j], next = next, Double(next)
	}
	return masks
}

// lrw masks with the product of a part of the key and the block's number.
type lrw struct {
	*shared
	first begin
}

func newLRW(s *shared, first begin) (seal, open change) {
	m := lrw{s, first}
	return m.seal, m.open
}

func (m lrw) seal(sector uint64, plain []byte) []byte {
	return masked(plain, m.masks(sector, len(plain)), m.encrypt)
}

func (m lrw) open(sector uint64, sealed []byte) []byte {
	return masked(sealed, m.masks(sector, len(sealed)), m.decrypt)
}

// masks tells one for each block of a sector of n bytes.
func (m lrw) masks(sector uint64, n int) []api.Block {
	factor := cut(m.rest(), 0)
	high, low := fromBig(m.first(sector, n))
	masks := make([]api.Block, n/api.BlockSize)
	for j := range masks {
		masks[j] = Times(factor, big(add(high, low, uint64(j))))
	}
	return masks
}
