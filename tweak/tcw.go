package tweak

import "slices"

// tcw is cbc whose sealed bytes are whitened.
type tcw struct{ cbc }

func newTCW(s *shared, first begin) (seal, open change) {
	m := tcw{cbc{s, first}}
	return m.seal, m.open
}

func (m tcw) seal(sector uint64, plain []byte) []byte {
	out := m.cbc.seal(sector, plain)
	xorRound(out, m.whitening(sector))
	return out
}

func (m tcw) open(sector uint64, sealed []byte) []byte {
	text := slices.Clone(sealed)
	xorRound(text, m.whitening(sector))
	return m.cbc.open(sector, text)
}

// whitening tells the 8 bytes that are laid over a sealed sector.
func (m tcw) whitening(sector uint64) []byte {
	v := xor(cut(m.rest(), 1), twice(sector))
	var r [4]uint32
	for i := range r {
		r[i] = remainder(v[4*i : 4*i+4 : 4*i+4])
	}
	return spell([]uint32{r[0] ^ r[3], r[1] ^ r[2]})
}

// remainder tells the register of CRC-32 behind some bytes, begun with 0 and not turned round.
func remainder(list []byte) uint32 {
	var register uint32
	for _, b := range list {
		register ^= uint32(b)
		for range 8 {
			register = register>>1 ^ 0xEDB88320*(register&1)
		}
	}
	return register
}
