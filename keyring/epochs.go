package keyring

import (
	"coffer/api"
	"coffer/digest"
	"coffer/rijndael"
)

// epochMark is what a wrapping key is made for.
const epochMark = "coffer epoch"

// newEpoch gives the record of a new key; an empty one, if the source refuses.
func newEpoch(from *source, number uint64, cipher string, master []byte) api.Epoch {
	nonce := from.draw(api.DigestSize)
	key := from.draw(keySize(cipher))
	if from.why != api.OK {
		return api.Epoch{}
	}
	p := api.Epoch{Number: number, Cipher: cipher, Nonce: string(nonce)}
	wrapping := wrappingKey(p, master)
	if len(key) > 0 {
		k, _ := rijndael.New(wrapping)
		sealed, _ := rijndael.Wrap(k, key)
		p.Sealed = string(sealed)
	}
	check, _ := digest.Code(api.Hash256, wrapping, key)
	p.Check = string(check)
	return p
}

// openEpoch gives the key of a record; false, if it has none.
func openEpoch(p api.Epoch, master []byte) ([]byte, bool) {
	wrapping := wrappingKey(p, master)
	var key []byte
	if len(p.Sealed) > 0 {
		k, _ := rijndael.New(wrapping)
		var e api.Errno
		if key, e = rijndael.Unwrap(k, []byte(p.Sealed)); e != api.OK {
			return nil, false
		}
	}
	check, _ := digest.Code(api.Hash256, wrapping, key)
	if !digest.Equal(check, []byte(p.Check)) || len(key) != keySize(p.Cipher) {
		return nil, false
	}
	return key, true
}

// wrappingKey gives what a record's key is sealed under: it hangs on all that the record says of that key, so that none can be put in another's place.
func wrappingKey(p api.Epoch, master []byte) []byte {
	number := make([]byte, 8)
	for i := range number {
		number[i] = byte(p.Number >> (56 - 8*i))
	}
	key, _ := digest.Code(api.Hash256, master, []byte(epochMark), number, []byte(p.Nonce), []byte(p.Cipher))
	return key
}
