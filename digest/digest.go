// Package digest: SHA-2, HMAC, PBKDF2, HKDF, texts of bytes: see doc/01-digest.md.
package digest

import "coffer/api"

// maxBlock is the bytes of the widest block, maxSize those of the longest digest.
const (
	maxBlock = 128
	maxSize  = 64
)

// Size tells the bytes of a digest; 0: there is none of that number.
func Size(hash int) int {
	if Block(hash) == 0 {
		return 0
	}
	return hash / 8
}

// Block tells the bytes of its block.
func Block(hash int) int {
	switch hash {
	case api.Hash224, api.Hash256:
		return 64
	case api.Hash384, api.Hash512:
		return 128
	}
	return 0
}

// taken is what was fed so far: the whole blocks as words, the bytes of the half-full one behind them.
type taken struct {
	hash  int
	take  func(h *words, blocks []byte)
	state words
	half  [maxBlock]byte
	fed   uint64 // in all; where the half-full block ends follows from it
}

func begin(hash int) (taken, api.Errno) {
	t := taken{hash: hash}
	switch Block(hash) {
	case 64:
		t.take = narrow
	case 128:
		t.take = wide
	default:
		return taken{}, api.ErrHash
	}
	t.state = firstWords(hash)
	return t, api.OK
}

// write adds parts, but nothing of them if it would have been fed more than most bytes.
func (t *taken) write(most uint64, parts [][]byte) api.Errno {
	left := most - t.fed
	for _, p := range parts {
		if uint64(len(p)) > left {
			return api.ErrLong
		}
		left -= uint64(len(p))
	}
	for _, p := range parts {
		t.add(p)
	}
	return api.OK
}

func (t *taken) add(p []byte) {
	block := Block(t.hash)
	used := int(t.fed % uint64(block))
	t.fed += uint64(len(p))
	if used > 0 {
		n := copy(t.half[used:block], p)
		if used+n < block {
			return
		}
		t.take(&t.state, t.half[:block])
		p = p[n:]
	}
	whole := len(p) - len(p)%block
	t.take(&t.state, p[:whole])
	copy(t.half[:block], p[whole:])
}

// finish pads what was fed and tells the words' bytes, which begin with its digest. Nothing can be added any more.
func (t *taken) finish() [maxSize]byte {
	block := Block(t.hash)
	used := int(t.fed % uint64(block))
	t.half[used] = 0x80
	clear(t.half[used+1 : block])
	if used+1 > block-block/8 {
		t.take(&t.state, t.half[:block])
		clear(t.half[:block])
	}
	length := t.fed * 8
	for i := range 8 {
		t.half[block-1-i] = byte(length >> (8 * i))
	}
	t.take(&t.state, t.half[:block])
	return t.spell()
}

// spell writes all words down; a digest is the first Size bytes of it.
func (t *taken) spell() [maxSize]byte {
	var d [maxSize]byte
	wordSize := Block(t.hash) / 16
	for i, x := range t.state {
		for j := wordSize - 1; j >= 0; j-- {
			d[i*wordSize+j] = byte(x)
			x >>= 8
		}
	}
	return d
}

// Stream is a digest that is fed part by part.
type Stream struct {
	taken
}

// New begins one.
func New(hash int) (*Stream, api.Errno) {
	t, e := begin(hash)
	if e != api.OK {
		return nil, e
	}
	return &Stream{t}, api.OK
}

// Hash tells which it is.
func (s *Stream) Hash() int {
	if s == nil {
		return 0
	}
	return s.hash
}

// Size tells the bytes of its digest.
func (s *Stream) Size() int { return Size(s.Hash()) }

// Block tells the bytes of its block.
func (s *Stream) Block() int { return Block(s.Hash()) }

// Count tells how many bytes it was fed.
func (s *Stream) Count() uint64 {
	if s == nil {
		return 0
	}
	return s.fed
}

// Write feeds it.
func (s *Stream) Write(parts ...[]byte) api.Errno {
	if s == nil {
		return api.ErrNil
	}
	return s.write(api.MaxFed, parts)
}

// Sum tells the digest of all that it was fed.
func (s *Stream) Sum() []byte {
	if s == nil {
		return nil
	}
	t := s.taken // a copy is finished, so that more may be written behind it
	d := t.finish()
	return first(d, s.Size())
}

// Reset has it begin anew.
func (s *Stream) Reset() api.Errno {
	if s == nil {
		return api.ErrNil
	}
	t, e := begin(s.hash)
	s.taken = t
	return e
}

// Copy gives another one that was fed the same.
func (s *Stream) Copy() *Stream {
	if s == nil {
		return nil
	}
	c := *s
	return &c
}

// Sum tells the digest of parts, joined.
func Sum(hash int, parts ...[]byte) ([]byte, api.Errno) {
	s, e := New(hash)
	if e != api.OK {
		return nil, e
	}
	if e = s.Write(parts...); e != api.OK {
		return nil, e
	}
	return s.Sum(), api.OK
}

// Equal tells whether two lists of bytes are the same, in a time that hangs on their lengths alone.
func Equal(a, b []byte) bool {
	if len(a) != len(b) {
		return false
	}
	var differ byte
	for i := range a {
		differ |= a[i] ^ b[i]
	}
	return differ == 0
}

// first gives the first n bytes of a digest in new memory, with nothing of it in spare room behind them.
func first(d [maxSize]byte, n int) []byte {
	b := make([]byte, n)
	copy(b, d[:n])
	return b
}
