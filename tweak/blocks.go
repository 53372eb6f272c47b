package tweak

import (
	"math/bits"

	"coffer/api"
)

// blockAt gives the place of block j in a list, no byte of the next one with it.
func blockAt(list []byte, j int) []byte {
	at := j * api.BlockSize
	return list[at : at+api.BlockSize : at+api.BlockSize]
}

// cut takes block j out of a list.
func cut(list []byte, j int) api.Block {
	var b api.Block
	copy(b[:], blockAt(list, j))
	return b
}

// lay puts a block at place j of a list.
func lay(list []byte, j int, b api.Block) { copy(blockAt(list, j), b[:]) }

// blockwise does every whole block of a list in order; bytes behind them are left zero.
func blockwise(list []byte, do func(j int, b api.Block) api.Block) []byte {
	out := make([]byte, len(list))
	for j := range len(list) / api.BlockSize {
		lay(out, j, do(j, cut(list, j)))
	}
	return out
}

// xor adds two blocks.
func xor(a, b api.Block) api.Block {
	for i := range a {
		a[i] ^= b[i]
	}
	return a
}

// xorRound lays short over every byte of list, from its beginning again and again.
func xorRound(list, short []byte) {
	for i := range list {
		list[i] ^= short[i%len(short)]
	}
}

// little tells high · 2^64 + low as a block, lowest byte first.
func little(high, low uint64) api.Block {
	var b api.Block
	for i := range 8 {
		b[i], b[8+i] = byte(low>>(8*i)), byte(high>>(8*i))
	}
	return b
}

// fromLittle undoes little.
func fromLittle(b api.Block) (high, low uint64) {
	for i := range 8 {
		low |= uint64(b[i]) << (8 * i)
		high |= uint64(b[8+i]) << (8 * i)
	}
	return high, low
}

// turned gives the bytes in the other order, so that highest first becomes lowest first.
func turned(b api.Block) api.Block {
	var out api.Block
	for i := range b {
		out[len(b)-1-i] = b[i]
	}
	return out
}

// big tells high · 2^64 + low as a block, highest byte first.
func big(high, low uint64) api.Block { return turned(little(high, low)) }

// fromBig undoes big.
func fromBig(b api.Block) (high, low uint64) { return fromLittle(turned(b)) }

// add adds to high · 2^64 + low, modulo 2^128.
func add(high, low, more uint64) (uint64, uint64) {
	low, carry := bits.Add64(low, more, 0)
	return high + carry, low
}
