package shred

import (
	"iter"

	"coffer/api"
	"coffer/digest"
)

// buffer is the chapter's d: zeros to begin with. All lists that go into it in one call are of one length, which is d's.
type buffer struct {
	room [api.MaxSecret]byte
	used int
}

// xor takes a list of at most MaxSecret bytes.
func (b *buffer) xor(list []byte) {
	b.used = len(list)
	for i, x := range list {
		b.room[i] ^= x
	}
}

// bytes tells d itself, for it to be changed in place.
func (b *buffer) bytes() []byte { return b.room[:b.used:b.used] }

// tell copies d out: the room itself is wiped when the call ends.
func (b *buffer) tell(out []byte) { copy(out, b.bytes()) }

// wipe clears all the room: a secret's bytes are not to stay in memory behind a call.
func (b *buffer) wipe() {
	Wipe(b.room[:])
	b.used = 0
}

// mixer is what is diffused, with the one stream that all its pieces go through.
type mixer struct {
	buffer
	stream *digest.Stream
}

func begin(hash int) (*mixer, api.Errno) {
	s, e := digest.New(hash)
	if e != api.OK {
		return nil, e
	}
	return &mixer{stream: s}, api.OK
}

// end clears the stream too, as its half-full block is a piece of d.
func (m *mixer) end() {
	m.wipe()
	m.stream.Reset()
}

// diffuse is the chapter's Diffuse, in place.
func (m *mixer) diffuse() {
	for i, piece := range pieces(m.bytes(), m.stream.Size()) {
		m.stream.Reset()
		m.stream.Write([]byte{byte(i >> 24), byte(i >> 16), byte(i >> 8), byte(i)}, piece)
		sum := m.stream.Sum()
		copy(piece, sum)
		Wipe(sum)
	}
}

// mask lays what the stripes ahead of the last one come to over the last one: that splits a secret, and merges it again.
func (m *mixer) mask(ahead, last []byte) {
	for _, stripe := range pieces(ahead, len(last)) {
		m.xor(stripe)
		m.diffuse()
	}
	m.xor(last)
}

// pieces cuts a list into pieces of size bytes, at least 1, and tells them with their numbers; the last one may be shorter.
func pieces(list []byte, size int) iter.Seq2[int, []byte] {
	return func(yield func(int, []byte) bool) {
		for i := 0; len(list) > i*size; i++ {
			from, to := i*size, min((i+1)*size, len(list))
			if !yield(i, list[from:to:to]) {
				return
			}
		}
	}
}
