package tweak

import (
	"slices"

	"coffer/api"
	"coffer/rijndael"
)

// shared is what all modes have: the name, the key and its schedule.
type shared struct {
	spec   string
	step   int // a sector's bytes are a multiple of it
	key    []byte
	width  int             // bytes of the key's first part
	main   *rijndael.Key   // AES under that part; null has none
	others []*rijndael.Key // the other schedules, for wipe to find
	wiped  bool
}

// share keeps a copy of the key, and AES under its first part.
func share(s suite, key []byte) *shared {
	first, _ := rijndael.New(key[:s.width]) // of null's no bytes it is nil
	return &shared{spec: s.spec, step: s.step, key: slices.Clone(key), width: s.width, main: first}
}

// encrypt does a block under the key's first part.
func (s *shared) encrypt(b api.Block) api.Block { return under(s.main, b) }

// decrypt undoes it.
func (s *shared) decrypt(b api.Block) api.Block {
	out, _ := s.main.Decrypt(b)
	return out
}

// schedule gives AES under another key than the first part; wipe puts it away too.
func (s *shared) schedule(key []byte) *rijndael.Key {
	k, _ := rijndael.New(key)
	s.others = append(s.others, k)
	return k
}

// rest tells the key's bytes behind its first part.
func (s *shared) rest() []byte { return s.key[s.width:len(s.key):len(s.key)] }

// wipe leaves the key's length alone.
func (s *shared) wipe() {
	clear(s.key)
	s.main.Wipe()
	for _, k := range s.others {
		k.Wipe()
	}
	s.main, s.others, s.wiped = nil, nil, true
}

// under does a block under a key that is known to be there.
func under(k *rijndael.Key, b api.Block) api.Block {
	out, _ := k.Encrypt(b)
	return out
}
