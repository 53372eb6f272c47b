package escrow

import (
	"bytes"

	"coffer/api"
	"coffer/digest"
)

// sharing is what a set's shares lie on: a share's values are those of the polynomials at its index, and the row is what they are at 0.
type sharing struct {
	set  uint16
	need int
	row  []polynomial
}

// newSharing makes one of random bytes, as many as it takes.
func newSharing(set uint16, secret []byte, need int, random []byte) sharing {
	s := sharing{set: set, need: need}
	row := append(bytes.Clone(secret), checkOf(set, secret)...)
	for i, last := range row {
		coefficients := make([]byte, need)
		for j := 1; j < need; j++ {
			coefficients[need-1-j] = random[(j-1)*len(row)+i]
		}
		coefficients[need-1] = last
		s.row = append(s.row, withCoefficients(coefficients))
	}
	return s
}

// checkOf gives a secret's check.
func checkOf(set uint16, secret []byte) []byte {
	sum, _ := digest.Sum(api.Hash256, twoBytes(set), secret)
	return sum[:api.ShareCheck]
}

// size tells how many bytes the secret has.
func (s sharing) size() int { return len(s.row) - api.ShareCheck }

// secret gives what is shared.
func (s sharing) secret() []byte { return valuesAt(0, s.row[:s.size()]) }

// isRight tells whether the check is the secret's.
func (s sharing) isRight() bool {
	return digest.Equal(valuesAt(0, s.row[s.size():]), checkOf(s.set, s.secret()))
}

// line gives the share of an index.
func (s sharing) line(index int) string {
	told := api.Share{Set: s.set, Need: s.need, Index: index, Size: s.size()}
	return Words(newRow(told, valuesAt(byte(index), s.row)))
}

// share is one that was read.
type share struct {
	api.Share
	values []byte
}

// joined gives the sharing that shares are of.
func joined(lines []string) (sharing, api.Errno) {
	all, e := readShares(lines)
	if e != api.OK {
		return sharing{}, e
	}
	if len(all) == 0 {
		return sharing{}, api.ErrEscrowFew
	}
	first := all[0]
	for _, s := range all {
		if s.Set != first.Set || s.Need != first.Need || s.Size != first.Size {
			return sharing{}, api.ErrEscrowApart
		}
	}
	unlike, e := byIndex(all)
	if e != api.OK {
		return sharing{}, e
	}
	if len(unlike) < first.Need {
		return sharing{}, api.ErrEscrowFew
	}
	s, fits := fitted(unlike)
	if !fits || !s.isRight() {
		return sharing{}, api.ErrEscrowWrong
	}
	return s, api.OK
}

// readShares reads all lines, each mended.
func readShares(lines []string) ([]share, api.Errno) {
	var out []share
	for _, line := range lines {
		row, _, e := readRow(line)
		if e != api.OK {
			return nil, e
		}
		out = append(out, share{told(row), valuesIn(row)})
	}
	return out, api.OK
}

// byIndex gives one share of each index, by rising index.
func byIndex(all []share) ([]share, api.Errno) {
	found := map[int]share{}
	for _, s := range all {
		if other, there := found[s.Index]; there && !bytes.Equal(other.values, s.values) {
			return nil, api.ErrEscrowTwice
		}
		found[s.Index] = s
	}
	var out []share
	for index := 1; index <= api.MaxShares; index++ {
		if s, there := found[index]; there {
			out = append(out, s)
		}
	}
	return out, api.OK
}

// fitted gives the sharing that the first shares, as many as are needed, lie on; false, if a further one does not.
func fitted(all []share) (sharing, bool) {
	first := all[0]
	out := sharing{set: first.Set, need: first.Need}
	enough, further := all[:first.Need], all[first.Need:]
	peaks := peaksAt(indices(enough))
	for i := range first.values {
		out.row = append(out.row, withCoefficients(through(peaks, column(enough, i))))
	}
	for _, s := range further {
		if !bytes.Equal(valuesAt(byte(s.Index), out.row), s.values) {
			return sharing{}, false
		}
	}
	return out, true
}

// indices gives the places at which the polynomials have the shares' values.
func indices(all []share) []byte {
	out := make([]byte, len(all))
	for k, s := range all {
		out[k] = byte(s.Index)
	}
	return out
}

// column gives value i of each share.
func column(all []share, i int) []byte {
	out := make([]byte, len(all))
	for k, s := range all {
		out[k] = s.values[i]
	}
	return out
}
