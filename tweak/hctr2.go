package tweak

import "coffer/api"

// hctr2 is one wide block: every byte of a sealed sector hangs on every byte of it.
type hctr2 struct {
	*shared
	first begin
}

func newHCTR2(s *shared, first begin) (seal, open change) {
	m := hctr2{s, first}
	return m.seal, m.open
}

func (m hctr2) seal(sector uint64, plain []byte) []byte {
	hash := m.hash(m.first(sector, len(plain)))
	rest := plain[api.BlockSize:]
	in := xor(cut(plain, 0), hash(rest))
	out := m.encrypt(in)
	sealed := append(make([]byte, api.BlockSize), m.count(xor(in, out), rest)...)
	lay(sealed, 0, xor(out, hash(sealed[api.BlockSize:])))
	return sealed
}

func (m hctr2) open(sector uint64, sealed []byte) []byte {
	hash := m.hash(m.first(sector, len(sealed)))
	rest := sealed[api.BlockSize:]
	out := xor(cut(sealed, 0), hash(rest))
	in := m.decrypt(out)
	plain := append(make([]byte, api.BlockSize), m.count(xor(in, out), rest)...)
	lay(plain, 0, xor(in, hash(plain[api.BlockSize:])))
	return plain
}

// hash gives what tells the hash of a sector's rest, for a sector with that initial block.
func (m hctr2) hash(first api.Block) func(rest []byte) api.Block {
	h := m.encrypt(little(0, 0))
	return func(rest []byte) api.Block {
		blocks := []api.Block{kind(rest), first, {}}
		return Polyval(h, append(blocks, filled(rest)...)...)
	}
}

// kind tells the block that goes ahead of the hashed ones: whether those behind it had to be filled up.
func kind(rest []byte) api.Block {
	if len(rest)%api.BlockSize != 0 {
		return little(0, 515)
	}
	return little(0, 514)
}

// filled cuts a list into blocks, the last one filled up with a byte 1 and zeros.
func filled(list []byte) []api.Block {
	blocks := make([]api.Block, len(list)/api.BlockSize)
	for j := range blocks {
		blocks[j] = cut(list, j)
	}
	if rest := list[len(blocks)*api.BlockSize:]; len(rest) > 0 {
		var last api.Block
		last[copy(last[:], rest)] = 1
		blocks = append(blocks, last)
	}
	return blocks
}

// count lays sealed numbers, from 1 on, over a list. sum is what went through the first block, its two sides added.
func (m hctr2) count(sum api.Block, list []byte) []byte {
	start := xor(sum, m.encrypt(little(0, 1)))
	out := make([]byte, 0, len(list))
	for number := uint64(1); len(out) < len(list); number++ {
		b := m.encrypt(xor(start, little(0, number)))
		for i := range min(len(b), len(list)-len(out)) {
			out = append(out, list[len(out)]^b[i])
		}
	}
	return out
}
