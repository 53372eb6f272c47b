package tweak

import "coffer/api"

// ecb seals every block by itself.
type ecb struct{ *shared }

func newECB(s *shared, _ begin) (seal, open change) {
	m := ecb{s}
	return m.seal, m.open
}

func (m ecb) seal(_ uint64, plain []byte) []byte {
	return blockwise(plain, func(_ int, b api.Block) api.Block { return m.encrypt(b) })
}

func (m ecb) open(_ uint64, sealed []byte) []byte {
	return blockwise(sealed, func(_ int, b api.Block) api.Block { return m.decrypt(b) })
}

// cbc adds to every block the sealed one ahead of it.
type cbc struct {
	*shared
	first begin
}

func newCBC(s *shared, first begin) (seal, open change) {
	m := cbc{s, first}
	return m.seal, m.open
}

func (m cbc) seal(sector uint64, plain []byte) []byte {
	ahead := m.first(sector, len(plain))
	return blockwise(plain, func(_ int, b api.Block) api.Block {
		ahead = m.encrypt(xor(b, ahead))
		return ahead
	})
}

func (m cbc) open(sector uint64, sealed []byte) []byte {
	ahead := m.first(sector, len(sealed))
	return blockwise(sealed, func(_ int, b api.Block) api.Block {
		out := xor(m.decrypt(b), ahead)
		ahead = b
		return out
	})
}
