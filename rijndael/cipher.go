package rijndael

import (
	"math/bits"

	"coffer/api"
)

const maxWords = 60 // words of the longest schedule, that of a key of 32 bytes

// columns is a state: a word a column, the byte of row 0 highest.
type columns [4]uint32

// cipher is what a key is made into. Without rounds there is no key in it.
type cipher struct {
	rounds int
	words  [maxWords]uint32
	s      [256]byte
	unS    [256]byte
	mixed  [256]uint32 // the column that S(b) gives in row 0: 2, 1, 1, 3 times it
	unmix  [256]uint32 // the column that b gives there backwards: 14, 9, 13, 11 times it
}

// schedule makes a cipher of a key of 16, 24 or 32 bytes.
func schedule(key []byte) cipher {
	nk := len(key) / 4
	c := cipher{rounds: nk + 6}
	c.fillTables()
	for i, b := range key {
		c.words[i/4] = c.words[i/4]<<8 | uint32(b)
	}
	for i := nk; i < c.wordCount(); i++ {
		t := c.words[i-1]
		switch {
		case i%nk == 0:
			t = c.replace(bits.RotateLeft32(t, 8)) ^ uint32(rcon[i/nk-1])<<24
		case nk == 8 && i%8 == 4:
			t = c.replace(t)
		}
		c.words[i] = c.words[i-nk] ^ t
	}
	return c
}

// fillTables goes through the field by the powers of an element, with the inverse beside it: that is cheaper than 256 inverses.
func (c *cipher) fillTables() {
	c.fillRow(0, affine)
	power, inv := byte(1), byte(1)
	for range 255 {
		c.fillRow(power, spread(inv))
		power = Times(power, generator)
		inv = Times(inv, undoing)
	}
}

// fillRow writes the tables' entries of b and of S(b).
func (c *cipher) fillRow(b, sb byte) {
	c.s[b], c.unS[sb] = sb, b
	twice := double(sb)
	c.mixed[b] = word(twice, sb, sb, twice^sb)
	b2 := double(b)
	b4 := double(b2)
	b8 := double(b4)
	c.unmix[b] = word(b8^b4^b2, b8^b, b8^b4^b, b8^b2^b)
}

// word joins four bytes, the first one highest.
func word(b0, b1, b2, b3 byte) uint32 {
	return uint32(b0)<<24 | uint32(b1)<<16 | uint32(b2)<<8 | uint32(b3)
}

// wordCount tells how many words the schedule has.
func (c *cipher) wordCount() int { return 4 * (c.rounds + 1) }

// replace is S of each byte of a word.
func (c *cipher) replace(w uint32) uint32 {
	return c.last(w, w, w, w)
}

// add adds a round's key to a state.
func (c *cipher) add(a columns, round int) columns {
	key := c.words[4*round : 4*round+4]
	return columns{a[0] ^ key[0], a[1] ^ key[1], a[2] ^ key[2], a[3] ^ key[3]}
}

// encrypt does a block.
func (c *cipher) encrypt(b api.Block) api.Block {
	a := c.add(fromBlock(b), 0)
	for round := 1; round < c.rounds; round++ {
		a = c.add(columns{
			c.mix(a[0], a[1], a[2], a[3]),
			c.mix(a[1], a[2], a[3], a[0]),
			c.mix(a[2], a[3], a[0], a[1]),
			c.mix(a[3], a[0], a[1], a[2]),
		}, round)
	}
	return toBlock(c.add(columns{
		c.last(a[0], a[1], a[2], a[3]),
		c.last(a[1], a[2], a[3], a[0]),
		c.last(a[2], a[3], a[0], a[1]),
		c.last(a[3], a[0], a[1], a[2]),
	}, c.rounds))
}

// mix tells a new column: row 0 of w0, row 1 of w1, .. through S and multiplied.
func (c *cipher) mix(w0, w1, w2, w3 uint32) uint32 {
	return c.mixed[byte(w0>>24)] ^
		bits.RotateLeft32(c.mixed[byte(w1>>16)], -8) ^
		bits.RotateLeft32(c.mixed[byte(w2>>8)], -16) ^
		bits.RotateLeft32(c.mixed[byte(w3)], -24)
}

// last tells a new column of the last round: as mix does, without the product.
func (c *cipher) last(w0, w1, w2, w3 uint32) uint32 {
	return word(c.s[byte(w0>>24)], c.s[byte(w1>>16)], c.s[byte(w2>>8)], c.s[byte(w3)])
}

// decrypt undoes encrypt.
func (c *cipher) decrypt(b api.Block) api.Block {
	a := c.add(fromBlock(b), c.rounds)
	for round := c.rounds - 1; round > 0; round-- {
		a = c.add(columns{
			c.undo(a[0], a[3], a[2], a[1]),
			c.undo(a[1], a[0], a[3], a[2]),
			c.undo(a[2], a[1], a[0], a[3]),
			c.undo(a[3], a[2], a[1], a[0]),
		}, round)
		a = columns{c.unmixed(a[0]), c.unmixed(a[1]), c.unmixed(a[2]), c.unmixed(a[3])}
	}
	return toBlock(c.add(columns{
		c.undo(a[0], a[3], a[2], a[1]),
		c.undo(a[1], a[0], a[3], a[2]),
		c.undo(a[2], a[1], a[0], a[3]),
		c.undo(a[3], a[2], a[1], a[0]),
	}, 0))
}

// undo tells an old column: row 0 of w0, row 1 of w1, .. through S's inverse.
func (c *cipher) undo(w0, w1, w2, w3 uint32) uint32 {
	return word(c.unS[byte(w0>>24)], c.unS[byte(w1>>16)], c.unS[byte(w2>>8)], c.unS[byte(w3)])
}

// unmixed undoes the product of a column.
func (c *cipher) unmixed(w uint32) uint32 {
	return c.unmix[byte(w>>24)] ^
		bits.RotateLeft32(c.unmix[byte(w>>16)], -8) ^
		bits.RotateLeft32(c.unmix[byte(w>>8)], -16) ^
		bits.RotateLeft32(c.unmix[byte(w)], -24)
}

// fromBlock and toBlock go between a block's bytes and its columns.
func fromBlock(b api.Block) columns {
	return columns{
		word(b[0], b[1], b[2], b[3]),
		word(b[4], b[5], b[6], b[7]),
		word(b[8], b[9], b[10], b[11]),
		word(b[12], b[13], b[14], b[15]),
	}
}

func toBlock(a columns) api.Block {
	var b api.Block
	for i := range b {
		b[i] = byte(a[i/4] >> (24 - 8*(i%4)))
	}
	return b
}
