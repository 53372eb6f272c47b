package escrow

import (
	"slices"

	"coffer/api"
	"coffer/rijndael"
)

const (
	setSize  = 2 // bytes of a set's number
	headSize = 5 // and with need, index and the secret's size behind it
)

// sums are the four of a row: if its code is right, all of them are 0.
type sums [api.ShareCheck]byte

// mayShare tells whether a secret of so many bytes is shared.
func mayShare(size int) bool { return size >= 1 && size <= api.MaxShared }

// mayNeed tells whether so many shares can be needed.
func mayNeed(need int) bool { return need >= 1 && need <= api.MaxNeed }

// uncoded tells how many bytes a share has ahead of its code: an even number.
func uncoded(size int) int {
	n := headSize + size + api.ShareCheck
	return n + n%2
}

// rowSize tells how many bytes a share of a secret has.
func rowSize(size int) int { return uncoded(size) + api.ShareCheck }

// newRow gives a share's bytes.
func newRow(s api.Share, values []byte) []byte {
	row := make([]byte, rowSize(s.Size))
	copy(row, twoBytes(s.Set))
	copy(row[setSize:], []byte{byte(s.Need), byte(s.Index), byte(s.Size)})
	copy(row[headSize:], values)
	writeCode(row)
	return row
}

// writeCode writes the code of a row whose last bytes are still 0. It is a polynomial through the sums of what is ahead of it, so that with it they become 0.
func writeCode(row []byte) {
	ahead := sumsOf(row)
	code := through(peaksAt(powers(len(ahead))), ahead[:])
	copy(row[len(row)-len(code):], code)
}

// sumsOf gives a row's sums: with its bytes for coefficients they are the values at powers of 3.
func sumsOf(row []byte) sums {
	var out sums
	p := withCoefficients(row)
	for j, x := range powers(len(out)) {
		out[j] = p(x)
	}
	return out
}

// told gives what a row says beside its values.
func told(row []byte) api.Share {
	return api.Share{Set: number(row), Need: int(row[2]), Index: int(row[3]), Size: int(row[4])}
}

// valuesIn gives the values in a share's bytes.
func valuesIn(row []byte) []byte {
	return row[headSize : headSize+told(row).Size+api.ShareCheck]
}

// isShare tells whether the bytes, as many as some share has, are a share's.
func isShare(row []byte) bool {
	s := told(row)
	if !mayNeed(s.Need) || s.Index < 1 || !mayShare(s.Size) || len(row) != rowSize(s.Size) {
		return false
	}
	for _, filler := range row[headSize+len(valuesIn(row)) : uncoded(s.Size)] {
		if filler != 0 {
			return false
		}
	}
	return sumsOf(row) == sums{}
}

// readRow gives the share's bytes that a text is nearest to, and in how many of them it differs.
func readRow(text string) ([]byte, int, api.Errno) {
	read, e := readWords(text)
	if e != api.OK {
		return nil, 0, e
	}
	if len(read) < rowSize(1) || len(read) > rowSize(api.MaxShared) {
		return nil, 0, api.ErrEscrowShare
	}
	row := mended(read)
	if !isShare(row) {
		return nil, 0, api.ErrEscrowShare
	}
	return row, differing(row, read), api.OK
}

// mended gives the row with a right code that differs from what was read in at most two bytes: there is at most one. If there is none, it is what was read.
func mended(read []byte) []byte {
	row := slices.Clone(read)
	found := sumsOf(read)
	weights := powers(len(read))
	slices.Reverse(weights)
search:
	for i, x := range weights {
		for k, y := range weights[:i] {
			if sumsOfTwo(x, y, found[0], found[1]) == found {
				a, b := wrongAt(x, y, found)
				row[i] ^= a
				row[k] ^= b
				break search
			}
		}
	}
	return row
}

// sumsOfTwo gives the sums of a row of zeros but for two places, of these weights, by the first two of them: each further one follows from the two ahead of it, as x and y are where z^2 + (x + y)z + xy is 0.
func sumsOfTwo(x, y, first, second byte) sums {
	out := sums{first, second}
	product := rijndael.Times(x, y)
	for j := 2; j < len(out); j++ {
		out[j] = rijndael.Times(x^y, out[j-1]) ^ rijndael.Times(product, out[j-2])
	}
	return out
}

// wrongAt gives the bytes at the two places of such a row.
func wrongAt(x, y byte, found sums) (byte, byte) {
	a := rijndael.Times(rijndael.Times(found[0], y)^found[1], inverse(x^y))
	return a, found[0] ^ a
}

// differing tells in how many bytes two rows of one length differ.
func differing(a, b []byte) int {
	n := 0
	for i := range a {
		if a[i] != b[i] {
			n++
		}
	}
	return n
}
