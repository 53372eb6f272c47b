package rijndael

import "coffer/api"

const (
	half     = 8                  // bytes of half a block
	wrapMark = 0xa6a6a6a6a6a6a6a6 // the A that wrapping begins with and unwrapping must end with
)

// Wrap wraps a key under another one.
func Wrap(k *Key, plain []byte) ([]byte, api.Errno) {
	if e := k.hold(); e != api.OK {
		return nil, e
	}
	defer k.guard.RUnlock()
	if e := checkLength(len(plain), api.MinWrap, api.MaxWrap); e != api.OK {
		return nil, e
	}
	return k.made.wrap(plain), api.OK
}

// Unwrap undoes it.
func Unwrap(k *Key, sealed []byte) ([]byte, api.Errno) {
	if e := k.hold(); e != api.OK {
		return nil, e
	}
	defer k.guard.RUnlock()
	if e := checkLength(len(sealed), api.MinWrap+half, api.MaxWrap+half); e != api.OK {
		return nil, e
	}
	plain, mark := k.made.unwrap(sealed)
	if mark != wrapMark {
		return nil, api.ErrUnwrap
	}
	return plain, api.OK
}

// checkLength tells whether n bytes, halves of blocks, lie within bounds. An odd length is short even above the upper bound.
func checkLength(n, least, most int) api.Errno {
	switch {
	case n < least || n%half != 0:
		return api.ErrShort
	case n > most:
		return api.ErrLong
	}
	return api.OK
}

// wrap does the steps, six rounds through the halves of plain. Their number goes on from round to round, so it is the n·j + i that each step adds.
func (c *cipher) wrap(plain []byte) []byte {
	n := len(plain) / half
	sealed := make([]byte, half+len(plain))
	copy(sealed[half:], plain)
	a := uint64(wrapMark)
	for step := range 6 * n {
		r := sealed[half+half*(step%n):]
		high, low := halves(c.encrypt(join(a, number(r))))
		a = high ^ uint64(step+1)
		put(r, low)
	}
	put(sealed, a)
	return sealed
}

// unwrap undoes wrap's steps, the last one first, and tells the A that they end with.
func (c *cipher) unwrap(sealed []byte) ([]byte, uint64) {
	n := len(sealed)/half - 1
	plain := make([]byte, half*n)
	copy(plain, sealed[half:])
	a := number(sealed)
	for step := 6*n - 1; step >= 0; step-- {
		r := plain[half*(step%n):]
		high, low := halves(c.decrypt(join(a^uint64(step+1), number(r))))
		a = high
		put(r, low)
	}
	return plain, a
}

// number reads the first 8 bytes of b, highest first.
func number(b []byte) uint64 {
	var n uint64
	for _, x := range b[:half] {
		n = n<<8 | uint64(x)
	}
	return n
}

// put writes n so.
func put(b []byte, n uint64) {
	for i := half - 1; i >= 0; i-- {
		b[i] = byte(n)
		n >>= 8
	}
}

// halves reads a block as two numbers.
func halves(b api.Block) (high, low uint64) {
	return number(b[:half]), number(b[half:])
}

// join makes a block of its halves.
func join(high, low uint64) api.Block {
	var b api.Block
	put(b[:half], high)
	put(b[half:], low)
	return b
}
