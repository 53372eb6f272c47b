package rijndael

import (
	"math/bits"

	"coffer/api"
)

// Stream is the counter mode.
type Stream struct {
	key   *Key
	start api.Block
	at    uint64
}

// Stream begins one at a counter.
func (k *Key) Stream(start api.Block) (*Stream, api.Errno) {
	if e := k.hold(); e != api.OK {
		return nil, e
	}
	defer k.guard.RUnlock()
	return &Stream{key: k, start: start}, api.OK
}

// XOR gives the next bytes of the stream, added to data.
func (s *Stream) XOR(data []byte) ([]byte, api.Errno) {
	if s == nil {
		return nil, api.ErrNil
	}
	if e := s.key.hold(); e != api.OK {
		return nil, e
	}
	defer s.key.guard.RUnlock()
	if len(data) > api.MaxXOR || uint64(len(data)) > s.left() {
		return nil, api.ErrLong
	}
	out := make([]byte, 0, len(data))
	for len(out) < len(data) {
		block := s.key.made.encrypt(s.counter())
		rest := block[s.at%api.BlockSize:]
		next := data[len(out):]
		n := min(len(rest), len(next))
		for i := range n {
			out = append(out, next[i]^rest[i])
		}
		s.at += uint64(n)
	}
	return out, api.OK
}

// Skip leaves bytes of the stream out.
func (s *Stream) Skip(n uint64) api.Errno {
	if s == nil {
		return api.ErrNil
	}
	if e := s.key.hold(); e != api.OK {
		return e
	}
	defer s.key.guard.RUnlock()
	if n > s.left() {
		return api.ErrLong
	}
	s.at += n
	return api.OK
}

// At tells how many bytes of the stream are behind.
func (s *Stream) At() uint64 {
	if s == nil {
		return 0
	}
	return s.at
}

// left tells how many bytes the stream still has.
func (s *Stream) left() uint64 { return api.MaxStream - s.at }

// counter tells the block whose encryption holds the stream's next byte.
func (s *Stream) counter() api.Block {
	high, low := halves(s.start)
	low, carry := bits.Add64(low, s.at/api.BlockSize, 0)
	return join(high+carry, low)
}
