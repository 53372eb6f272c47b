package tweak

import (
	"slices"
	"strconv"

	"coffer/api"
)

// mode is a way to seal sectors with AES, whatever the length of its key.
type mode struct {
	name  string
	keys  int // parts of the key that are keys of AES
	more  int // bytes of the key behind them
	step  int // a sector's bytes are a multiple of it
	begin func(*shared) begin
	build func(*shared, begin) (seal, open change)
}

// modes tells all that are with AES, in the order of Specs.
func modes() []mode {
	const whole, odd = api.BlockSize, 1
	return []mode{
		{"ecb", 1, 0, whole, nil, newECB},
		{"cbc-null", 1, 0, whole, beginNull, newCBC},
		{"cbc-plain", 1, 0, whole, beginPlain, newCBC},
		{"cbc-plain64", 1, 0, whole, beginPlain64, newCBC},
		{"cbc-plain64be", 1, 0, whole, beginPlain64BE, newCBC},
		{"cbc-benbi", 1, 0, whole, beginBenbi, newCBC},
		{"cbc-essiv:sha256", 1, 0, whole, beginESSIV, newCBC},
		{"cbc-eboiv", 1, 0, whole, beginEBOIV, newCBC},
		{"cbc-elephant", 2, 0, whole, beginEBOIV, newElephant},
		{"cbc-tcw", 1, 32, whole, beginTCW, newTCW},
		{"xts-plain", 2, 0, odd, beginPlain, newXTS},
		{"xts-plain64", 2, 0, odd, beginPlain64, newXTS},
		{"xts-plain64be", 2, 0, odd, beginPlain64BE, newXTS},
		{"xts-essiv:sha256", 2, 0, odd, beginESSIV, newXTS},
		{"lrw-benbi", 1, 16, whole, beginBenbi, newLRW},
		{"hctr2-plain", 1, 0, odd, beginPlain, newHCTR2},
		{"hctr2-plain64", 1, 0, odd, beginPlain64, newHCTR2},
	}
}

// suite is a mode with a length of AES' key: what a name tells.
type suite struct {
	spec  string
	width int // bytes of a key of AES
	mode
}

// keySize tells the bytes of the whole key.
func (s suite) keySize() int { return s.keys*s.width + s.more }

// suites tells all, in the order of Specs.
func suites() []suite {
	all := []suite{{"null", 0, mode{step: 1, build: newNull}}}
	for _, width := range []int{16, 24, 32} {
		for _, m := range modes() {
			all = append(all, suite{"aes" + strconv.Itoa(8*width) + "-" + m.name, width, m})
		}
	}
	return all
}

// find tells the suite of a name.
func find(spec string) (suite, bool) {
	for _, s := range suites() {
		if s.spec == spec {
			return s, true
		}
	}
	return suite{}, false
}

// Specs tells the names of all ciphers.
func Specs() []string {
	all := suites()
	names := make([]string, len(all))
	for i, s := range all {
		names[i] = s.spec
	}
	return names
}

// KeySize tells how many bytes a cipher's key has.
func KeySize(spec string) (int, api.Errno) {
	s, ok := find(spec)
	if !ok {
		return 0, api.ErrTweakSpec
	}
	return s.keySize(), api.OK
}

// newNull leaves sectors as they are.
func newNull(*shared, begin) (seal, open change) {
	same := func(_ uint64, text []byte) []byte { return slices.Clone(text) }
	return same, same
}
