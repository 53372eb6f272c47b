package digest

import "coffer/api"

// Stretch is PBKDF2 with HMAC.
func Stretch(hash int, pass, salt []byte, turns, n int) ([]byte, api.Errno) {
	if e := mayStretch(hash, len(pass), len(salt), turns, n); e != api.OK {
		return nil, e
	}
	m, e := NewMac(hash, pass)
	if e != api.OK {
		return nil, e
	}
	m.add(salt)
	salted := *m // all blocks begin with the salt: it is taken once, however long it is
	out := make([]byte, 0, n)
	for i := 1; len(out) < n; i++ {
		*m = salted
		m.add([]byte{byte(i >> 24), byte(i >> 16), byte(i >> 8), byte(i)})
		b := m.stretchBlock(turns)
		out = append(out, b[:min(m.Size(), n-len(out))]...)
	}
	return out, api.OK
}

func mayStretch(hash, pass, salt, turns, n int) api.Errno {
	size := Size(hash)
	if size == 0 {
		return api.ErrHash
	}
	if pass > api.MaxFed || salt > api.MaxFed-4 {
		return api.ErrLong
	}
	if turns < 1 || turns > api.MaxTurns {
		return api.ErrTurns
	}
	if n < 1 || n > api.MaxDerived {
		return api.ErrDerive
	}
	blocks := (n + size - 1) / size
	if int64(turns)*int64(blocks) > api.MaxStretch {
		return api.ErrDerive
	}
	return api.OK
}

// stretchBlock tells bytes that begin with the exclusive or of U1 to U(turns), where U1 is the code of what was fed.
func (m *Mac) stretchBlock(turns int) [maxSize]byte {
	u := m.finishCode()
	sum := u
	for range turns - 1 {
		m.restart(m.inner)
		m.add(u[:Size(m.hash)])
		u = m.finishCode()
		for i, x := range u {
			sum[i] ^= x
		}
	}
	return sum
}

// Extract is the first half of HKDF.
func Extract(hash int, salt, secret []byte) ([]byte, api.Errno) {
	return Code(hash, salt, secret)
}

// Expand is its second half.
func Expand(hash int, prk, info []byte, n int) ([]byte, api.Errno) {
	if e := mayExpand(hash, len(prk), len(info), n); e != api.OK {
		return nil, e
	}
	m, e := NewMac(hash, prk)
	if e != api.OK {
		return nil, e
	}
	out := make([]byte, 0, n)
	var last []byte
	for i := 1; len(out) < n; i++ {
		m.restart(m.inner)
		if e = m.Write(last, info, []byte{byte(i)}); e != api.OK {
			return nil, e
		}
		last = m.Sum()
		out = append(out, last[:min(len(last), n-len(out))]...)
	}
	return out, api.OK
}

func mayExpand(hash, prk, info, n int) api.Errno {
	size := Size(hash)
	if size == 0 {
		return api.ErrHash
	}
	if prk < size {
		return api.ErrPrk
	}
	if prk > api.MaxFed || info > api.MaxFed-maxSize-1 {
		return api.ErrLong
	}
	if n < 1 || n > 255*size {
		return api.ErrDerive
	}
	return api.OK
}
