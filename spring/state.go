package spring

import (
	"coffer/api"
	"coffer/digest"
)

const maxSize = api.Hash512 / 8 // bytes of the longest digest

// state is (K, V): arrays, so that a copy of it shares nothing; the bytes behind the digest's size stay unused.
type state struct {
	hash  int
	key   [maxSize]byte
	value [maxSize]byte
}

func firstState(hash int) (state, api.Errno) {
	n := digest.Size(hash)
	if n == 0 {
		return state{}, api.ErrHash
	}
	s := state{hash: hash}
	for i := range n {
		s.value[i] = 1
	}
	return s, api.OK
}

// update is the chapter's Update with the lists, joined.
func (s *state) update(lists ...[]byte) {
	s.mix(0, lists)
	if joined(lists) > 0 {
		s.mix(1, lists)
	}
}

func (s *state) mix(mark byte, lists [][]byte) {
	n := digest.Size(s.hash)
	copy(s.key[:], s.code(append([][]byte{s.value[:n], {mark}}, lists...)...))
	s.turn()
}

// turn has V become HMAC(K, V).
func (s *state) turn() {
	copy(s.value[:], s.code(s.value[:digest.Size(s.hash)]))
}

// code tells HMAC(K, parts). It has no error: the digest is a known one, and all lists are within bounds far below MaxFed.
func (s *state) code(parts ...[]byte) []byte {
	c, _ := digest.Code(s.hash, s.key[:digest.Size(s.hash)], parts...)
	return c
}

// give tells the next n bytes.
func (s *state) give(n int) []byte {
	out := make([]byte, n)
	for at := 0; at < n; at += digest.Size(s.hash) {
		s.turn()
		copy(out[at:], s.value[:digest.Size(s.hash)])
	}
	return out
}
