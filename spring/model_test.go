package spring_test

import (
	"crypto/hmac"
	"crypto/sha256"
	"crypto/sha512"
	"hash"
	"math/big"
	"math/rand"
	"strconv"
	"strings"
	"testing"

	"coffer/api"
	"coffer/spring"
)

// A second reckoning of the chapter's words, with the library's digests and with whole numbers: what the package answers is held against it.

var hashes = []int{224, 256, 384, 512}

func libraryHash(bits int) func() hash.Hash {
	switch bits {
	case 224:
		return sha256.New224
	case 256:
		return sha256.New
	case 384:
		return sha512.New384
	case 512:
		return sha512.New
	}
	return nil
}

// model is a spring as the chapter tells it.
type model struct {
	digest       func() hash.Hash
	k, v         []byte
	limit, count int
}

func (m *model) code(x []byte) []byte {
	h := hmac.New(m.digest, m.k)
	h.Write(x)
	return h.Sum(nil)
}

func (m *model) update(x []byte) {
	for mark := range 2 {
		if mark == 1 && len(x) == 0 {
			return
		}
		m.k = m.code([]byte(string(m.v) + string([]byte{byte(mark)}) + string(x)))
		m.v = m.code(m.v)
	}
}

func join(lists ...[]byte) []byte {
	var all []byte
	for _, l := range lists {
		all = append(all, l...)
	}
	return all
}

func modelNew(bits, limit int, entropy, nonce, personal []byte) (*model, api.Errno) {
	switch {
	case libraryHash(bits) == nil:
		return nil, 10
	case limit <= 0 || limit > 16777216:
		return nil, 2
	case len(entropy) < 16 || len(entropy) > 65536:
		return nil, 60
	case len(nonce) > 65536 || len(personal) > 65536:
		return nil, 4
	}
	m := &model{digest: libraryHash(bits), limit: limit}
	m.k = make([]byte, bits/8)
	m.v = []byte(strings.Repeat("\x01", bits/8))
	m.update(join(entropy, nonce, personal))
	return m, 0
}

func (m *model) draw(n int, extra ...[]byte) ([]byte, api.Errno) {
	x := join(extra...)
	switch {
	case n < 0:
		return nil, 2
	case n > 65536 || len(x) > 65536:
		return nil, 4
	case m.count >= m.limit:
		return nil, 61
	}
	if len(x) > 0 {
		m.update(x)
	}
	var out []byte
	for len(out) < n {
		m.v = m.code(m.v)
		out = append(out, m.v...)
	}
	m.update(x)
	m.count++
	return out[:n], 0
}

func (m *model) feed(entropy []byte, extra ...[]byte) api.Errno {
	x := join(extra...)
	switch {
	case len(entropy) < 16 || len(entropy) > 65536:
		return 60
	case len(x) > 65536:
		return 4
	}
	m.update(join(entropy, x))
	m.count = 0
	return 0
}

// bitRow tells bytes as one row of digits 0 and 1.
func bitRow(b []byte) string {
	var row strings.Builder
	for _, x := range b {
		digits := strconv.FormatUint(uint64(x), 2)
		row.WriteString(strings.Repeat("0", 8-len(digits)) + digits)
	}
	return row.String()
}

// modelMost goes from byte to byte: where it stands, and how many of its places lie within a window of the first of them.
func modelMost(b []byte) int {
	var places [256][]int
	for i, x := range b {
		places[x] = append(places[x], i)
	}
	most := 0
	for _, p := range places {
		from := 0
		for to := range p {
			for p[to]-p[from] >= 512 {
				from++
			}
			most = max(most, to-from+1)
		}
	}
	return most
}

func modelRun(b []byte) int {
	longest := 0
	for from := 0; from < len(b); {
		to := from
		for to < len(b) && b[to] == b[from] {
			to++
		}
		longest = max(longest, to-from)
		from = to
	}
	return longest
}

// modelWalk goes by pairs of digits; it tells the end and how far it came.
func modelWalk(row string, k int) (end api.Walk, far int64) {
	for at := 2 * k; at < len(row); at += 8 {
		switch row[at : at+2] {
		case "00":
			end.Re++
		case "01":
			end.Im++
		case "10":
			end.Re--
		case "11":
			end.Im--
		}
		far = max(far, end.Re*end.Re+end.Im*end.Im)
	}
	return end, far
}

func modelHealth(b []byte) api.Health {
	row := bitRow(b)
	h := api.Health{Count: len(b), Run: modelRun(b), Most: modelMost(b), Ones: strings.Count(row, "1")}
	for i := 1; i < len(row); i++ {
		if row[i] != row[i-1] {
			h.Turned++
		}
	}
	times := map[string]int64{}
	for i := 0; i < len(row); i += 4 {
		times[row[i:i+4]]++
	}
	for _, n := range times {
		h.Poker += n * n
	}
	for k := range 4 {
		h.Ends[k], _ = modelWalk(row, k)
	}
	_, h.Far = modelWalk(row, 0)
	return h
}

func big64(n int64) *big.Int { return big.NewInt(n) }

func times(a, b *big.Int) *big.Int { return new(big.Int).Mul(a, b) }

func less(a, b *big.Int) *big.Int { return new(big.Int).Sub(a, b) }

func above(a, b *big.Int) bool { return a.Cmp(b) > 0 }

// outside tells whether n is not from least to most.
func outside(n, least, most *big.Int) bool { return above(least, n) || above(n, most) }

// modelJudge reckons without bound.
func modelJudge(h api.Health) api.Errno {
	c := big64(int64(h.Count))
	c8 := times(big64(8), c)
	square := times(c, c)
	zero, one := big64(0), big64(1)
	most := c
	if above(c, big64(512)) {
		most = big64(512)
	}
	run, bits, turned := big64(int64(h.Run)), big64(int64(h.Ones)), big64(int64(h.Turned))
	wrong := outside(c, big64(64), big64(1048576)) || outside(run, one, c) || outside(big64(int64(h.Most)), one, most) ||
		outside(bits, zero, c8) || outside(turned, zero, less(c8, one)) ||
		outside(big64(h.Poker), zero, times(big64(4), square)) || outside(big64(h.Far), zero, square)
	for _, w := range h.Ends {
		wrong = wrong || outside(big64(w.Re), new(big.Int).Neg(c), c) || outside(big64(w.Im), new(big.Int).Neg(c), c)
	}
	if wrong {
		return 2
	}
	longest := 4
	if h.Count > 65536 {
		longest = 6
	}
	m := less(c8, one)
	a := less(times(big64(2), bits), c8)
	b := less(times(big64(2), turned), m)
	sick := h.Run > longest || h.Most > 20 ||
		above(times(a, a), times(big64(288), c)) ||
		above(times(b, b), times(big64(36), m)) ||
		above(less(times(big64(16), big64(h.Poker)), times(big64(4), square)), times(big64(200), c)) ||
		above(big64(h.Far), times(big64(64), c))
	for _, w := range h.Ends {
		sum := new(big.Int).Add(times(big64(w.Re), big64(w.Re)), times(big64(w.Im), big64(w.Im)))
		sick = sick || above(sum, times(big64(32), c))
	}
	if sick {
		return 62
	}
	return 0
}

// some gives bytes that hang on the seed alone.
func some(seed int64, n int) []byte {
	b := make([]byte, n)
	rand.New(rand.NewSource(seed)).Read(b)
	return b
}

func rising(n int) []byte {
	b := make([]byte, n)
	for i := range b {
		b[i] = byte(i)
	}
	return b
}

func mustNew(t *testing.T, bits, limit int, entropy, nonce, personal []byte) *spring.Spring {
	t.Helper()
	s, e := spring.New(bits, limit, entropy, nonce, personal)
	if e != api.OK || s == nil {
		t.Fatalf("New: error %d", e)
	}
	return s
}

func mustDraw(t *testing.T, s *spring.Spring, n int, extra ...[]byte) []byte {
	t.Helper()
	b, e := s.Draw(n, extra...)
	if e != api.OK || len(b) != n {
		t.Fatalf("Draw(%d): %d bytes, error %d", n, len(b), e)
	}
	return b
}

func mustFeed(t *testing.T, s *spring.Spring, entropy []byte, extra ...[]byte) {
	t.Helper()
	if e := s.Feed(entropy, extra...); e != api.OK {
		t.Fatalf("Feed: error %d", e)
	}
}
