package digest

import "coffer/api"

// Mac is an HMAC that is fed part by part.
type Mac struct {
	taken
	inner words // where the inner digest stands behind the key's block
	outer words // where the outer one does
}

// NewMac begins one.
func NewMac(hash int, key []byte) (*Mac, api.Errno) {
	t, e := begin(hash)
	if e != api.OK {
		return nil, e
	}
	if len(key) > api.MaxFed {
		return nil, api.ErrLong
	}
	k := keyBlock(t, key)
	m := &Mac{taken: t, inner: behindKey(t, k, 0x36), outer: behindKey(t, k, 0x5c)}
	m.restart(m.inner)
	return m, api.OK
}

// keyBlock tells K: the key, or the digest of a long one, with zeros behind it.
func keyBlock(t taken, key []byte) [maxBlock]byte {
	var k [maxBlock]byte
	if len(key) <= Block(t.hash) {
		copy(k[:], key)
		return k
	}
	t.add(key)
	d := t.finish()
	copy(k[:], d[:Size(t.hash)])
	return k
}

// behindKey tells the words behind the block K xor mask.
func behindKey(t taken, k [maxBlock]byte, mask byte) words {
	for i := range k {
		k[i] ^= mask
	}
	t.take(&t.state, k[:Block(t.hash)])
	return t.state
}

// restart has it stand behind the key's block; the block counts as fed, since it counts in the digest's length.
func (m *Mac) restart(state words) {
	m.taken = taken{hash: m.hash, take: m.take, state: state, fed: uint64(Block(m.hash))}
}

// finishCode tells bytes that begin with the code. Nothing can be added until it is restarted.
func (m *Mac) finishCode() [maxSize]byte {
	d := m.finish()
	m.restart(m.outer)
	m.add(d[:Size(m.hash)])
	return m.finish()
}

// Size tells the bytes of its code.
func (m *Mac) Size() int {
	if m == nil {
		return 0
	}
	return Size(m.hash)
}

// Write feeds it.
func (m *Mac) Write(parts ...[]byte) api.Errno {
	if m == nil {
		return api.ErrNil
	}
	return m.write(uint64(api.MaxFed+Block(m.hash)), parts)
}

// Sum tells the code of all that it was fed.
func (m *Mac) Sum() []byte {
	if m == nil {
		return nil
	}
	d := m.Copy().finishCode()
	return first(d, m.Size())
}

// Reset has it begin anew, with the same key.
func (m *Mac) Reset() api.Errno {
	if m == nil {
		return api.ErrNil
	}
	m.restart(m.inner)
	return api.OK
}

// Copy gives another one that was fed the same.
func (m *Mac) Copy() *Mac {
	if m == nil {
		return nil
	}
	c := *m
	return &c
}

// Code tells the HMAC of parts, joined.
func Code(hash int, key []byte, parts ...[]byte) ([]byte, api.Errno) {
	m, e := NewMac(hash, key)
	if e != api.OK {
		return nil, e
	}
	if e = m.Write(parts...); e != api.OK {
		return nil, e
	}
	return m.Sum(), api.OK
}
