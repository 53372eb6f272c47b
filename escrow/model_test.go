package escrow_test

import (
	"crypto/sha256"
	"encoding/binary"
	"fmt"
	"math/rand"
	"slices"
	"strconv"
	"strings"
	"testing"

	"coffer/api"
	"coffer/escrow"
)

// The field once more, by logarithms: exp[k] is 3^k, and log undoes it.
var exp, log = logarithms()

func logarithms() (exp [255]int, log [256]int) {
	power := 1
	for k := range exp {
		exp[k], log[power] = power, k
		power ^= power << 1
		if power > 255 {
			power ^= 0x11b
		}
	}
	return exp, log
}

func times(a, b byte) byte {
	if a == 0 || b == 0 {
		return 0
	}
	return byte(exp[(log[a]+log[b])%255])
}

func over(a, b byte) byte {
	if a == 0 {
		return 0
	}
	return byte(exp[(log[a]+255-log[b])%255])
}

// power is a^n; the power 0 is 1, of 0 too.
func power(a byte, n int) byte {
	out := byte(1)
	for range n {
		out = times(out, a)
	}
	return out
}

// solve gives the unknowns of equations, each of which is its factors and the sum behind them; false, if there are none. There must not be more than one.
func solve(equations [][]byte) ([]byte, bool) {
	var rows [][]byte
	for _, e := range equations {
		rows = append(rows, slices.Clone(e))
	}
	unknowns := len(rows[0]) - 1
	for c := range unknowns {
		p := c
		for p < len(rows) && rows[p][c] == 0 {
			p++
		}
		if p == len(rows) {
			panic("more than one solution")
		}
		rows[c], rows[p] = rows[p], rows[c]
		for i := range rows {
			if i == c || rows[i][c] == 0 {
				continue
			}
			f := over(rows[i][c], rows[c][c])
			for k := range rows[i] {
				rows[i][k] ^= times(f, rows[c][k])
			}
		}
	}
	for _, r := range rows[unknowns:] {
		if r[unknowns] != 0 {
			return nil, false
		}
	}
	out := make([]byte, unknowns)
	for c := range out {
		out[c] = over(rows[c][unknowns], rows[c][c])
	}
	return out, true
}

// rightCode tells whether all four sums of a row are 0.
func rightCode(row []byte) bool {
	for j := range 4 {
		var sum byte
		for i, c := range row {
			sum ^= times(c, byte(exp[j*(len(row)-1-i)%255]))
		}
		if sum != 0 {
			return false
		}
	}
	return true
}

// coded gives bytes with the four behind them that make the code right.
func coded(ahead []byte) []byte {
	size := len(ahead) + 4
	equations := make([][]byte, 4)
	for j := range equations {
		var sum byte
		for i, c := range ahead {
			sum ^= times(c, byte(exp[j*(size-1-i)%255]))
		}
		for k := range 4 {
			equations[j] = append(equations[j], byte(exp[j*(3-k)%255]))
		}
		equations[j] = append(equations[j], sum)
	}
	code, _ := solve(equations)
	return append(slices.Clone(ahead), code...)
}

// modelCheck is a secret's check.
func modelCheck(set uint16, secret []byte) []byte {
	sum := sha256.Sum256(append(binary.BigEndian.AppendUint16(nil, set), secret...))
	return sum[:4]
}

// bytesOf gives a share's bytes, with any values.
func bytesOf(s api.Share, values []byte) []byte {
	row := binary.BigEndian.AppendUint16(nil, s.Set)
	row = append(row, byte(s.Need), byte(s.Index), byte(s.Size))
	row = append(row, values...)
	if len(row)%2 == 1 {
		row = append(row, 0)
	}
	return coded(row)
}

// modelValues are the values of the share x: random is R1,0 R1,1 ..
func modelValues(row []byte, need int, random []byte, x byte) []byte {
	out := slices.Clone(row)
	for i := range row {
		for j := 1; j < need; j++ {
			out[i] ^= times(random[(j-1)*len(row)+i], power(x, j))
		}
	}
	return out
}

// modelDeal is P11.2's lines.
func modelDeal(set uint16, secret []byte, need, count int, random []byte) []string {
	row := append(slices.Clone(secret), modelCheck(set, secret)...)
	var out []string
	for x := 1; x <= count; x++ {
		s := api.Share{Set: set, Need: need, Index: x, Size: len(secret)}
		out = append(out, modelWords(bytesOf(s, modelValues(row, need, random, byte(x)))))
	}
	return out
}

// modelWords writes the bits out and reads them by fours and twos.
func modelWords(b []byte) string {
	var words []string
	for i := 0; i+2 <= len(b); i += 2 {
		bits := fmt.Sprintf("%08b%08b", b[i], b[i+1])
		word := ""
		for k := range 5 {
			n, letters := 4, "bdfghjklmnprstvz"
			if k%2 == 1 {
				n, letters = 2, "aiou"
			}
			at, _ := strconv.ParseUint(bits[:n], 2, 8)
			word, bits = word+letters[at:at+1], bits[n:]
		}
		words = append(words, word)
	}
	return strings.Join(words, " ")
}

// numbers gives the two bytes of each word.
var numbers = func() map[string][2]byte {
	out := map[string][2]byte{}
	for n := range 1 << 16 {
		b := [2]byte{byte(n >> 8), byte(n)}
		out[modelWords(b[:])] = b
	}
	return out
}()

// modelRead is what is read of a text.
func modelRead(text string) ([]byte, api.Errno) {
	if len(text) > 1024 {
		return nil, api.ErrLong
	}
	var row, word []byte
	for _, c := range append([]byte(text), ' ') {
		if strings.IndexByte("\t\n\r -", c) < 0 {
			if 'A' <= c && c <= 'Z' {
				c += 32
			}
			word = append(word, c)
			continue
		}
		if len(word) != 0 && len(word) != 5 {
			return nil, api.ErrEscrowWord
		}
		if len(word) == 5 {
			b := numbers[string(word)]
			row = append(row, b[:]...)
		}
		word = nil
	}
	return row, api.OK
}

// modelNear gives all rows with a right code that differ from a row in at most two bytes: of each change of one byte, or none, it asks whether one more makes the code right.
func modelNear(row []byte) map[string]int {
	out := map[string]int{}
	if rightCode(row) {
		out[string(row)] = 0
	}
	base := sumsOf(row)
	for i := range row {
		for v := range 256 {
			s := base
			for j := range s {
				s[j] ^= times(byte(v), byte(exp[j*(len(row)-1-i)%255]))
			}
			k, b, one := oneWrong(s, len(row))
			if !one || k == i {
				continue
			}
			near := slices.Clone(row)
			near[i] ^= byte(v)
			near[k] ^= b
			out[string(near)] = distance(near, row)
		}
	}
	return out
}

func sumsOf(row []byte) [4]byte {
	var out [4]byte
	for j := range out {
		for i, c := range row {
			out[j] ^= times(c, byte(exp[j*(len(row)-1-i)%255]))
		}
	}
	return out
}

// oneWrong tells the one place and byte that have these sums.
func oneWrong(s [4]byte, size int) (int, byte, bool) {
	if s[0] == 0 || s[1] == 0 {
		return 0, 0, false
	}
	x := over(s[1], s[0])
	if s[2] != times(s[1], x) || s[3] != times(s[2], x) || log[x] >= size {
		return 0, 0, false
	}
	return size - 1 - log[x], s[0], true
}

func distance(a, b []byte) int {
	n := 0
	for i := range a {
		if a[i] != b[i] {
			n++
		}
	}
	return n
}

// modelIsShare is the chapter's 'the bytes are a share's'.
func modelIsShare(row []byte) bool {
	if len(row) < 14 || !rightCode(row) || row[2] < 1 || row[2] > 16 || row[3] < 1 || row[4] < 1 || row[4] > 64 {
		return false
	}
	if n := int(row[4]); n%2 == 1 {
		return len(row) == n+13
	} else {
		return len(row) == n+14 && row[n+9] == 0
	}
}

// modelMend is P11.5; it tells the row itself too.
func modelMend(t *testing.T, text string) ([]byte, int, api.Errno) {
	t.Helper()
	read, e := modelRead(text)
	if e != api.OK {
		return nil, 0, e
	}
	if len(read) < 14 || len(read) > 78 {
		return nil, 0, api.ErrEscrowShare
	}
	near := modelNear(read)
	if len(near) > 1 {
		t.Fatalf("%d rows are near to one", len(near))
	}
	for row, wrong := range near {
		if modelIsShare([]byte(row)) {
			return []byte(row), wrong, api.OK
		}
	}
	return nil, 0, api.ErrEscrowShare
}

// part is a share as the model reads it.
type part struct {
	api.Share
	values []byte
}

// modelShares reads lines.
func modelShares(t *testing.T, lines []string) ([]part, api.Errno) {
	t.Helper()
	var out []part
	for _, line := range lines {
		row, _, e := modelMend(t, line)
		if e != api.OK {
			return nil, e
		}
		s := api.Share{Set: binary.BigEndian.Uint16(row), Need: int(row[2]), Index: int(row[3]), Size: int(row[4])}
		out = append(out, part{s, row[5 : 5+s.Size+4]})
	}
	return out, api.OK
}

// modelJoin is P11.7; it tells the coefficients T, R1, R2, .. of each value too.
func modelJoin(t *testing.T, lines []string) ([]byte, [][]byte, api.Errno) {
	t.Helper()
	all, e := modelShares(t, lines)
	if e != api.OK {
		return nil, nil, e
	}
	if len(all) == 0 {
		return nil, nil, api.ErrEscrowFew
	}
	first := all[0]
	for _, a := range all {
		a.Index, first.Index = 0, 0
		if a.Share != first.Share {
			return nil, nil, api.ErrEscrowApart
		}
	}
	different := map[int]bool{}
	for i, a := range all {
		different[a.Index] = true
		for _, b := range all[:i] {
			if a.Index == b.Index && !slices.Equal(a.values, b.values) {
				return nil, nil, api.ErrEscrowTwice
			}
		}
	}
	if len(different) < first.Need {
		return nil, nil, api.ErrEscrowFew
	}
	var secret []byte
	var coefficients [][]byte
	for i := range first.values {
		var equations [][]byte
		for _, a := range all {
			equations = append(equations, append(powersOf(byte(a.Index), first.Need), a.values[i]))
		}
		c, ok := solve(equations)
		if !ok {
			return nil, nil, api.ErrEscrowWrong
		}
		secret = append(secret, c[0])
		coefficients = append(coefficients, c)
	}
	if !slices.Equal(modelCheck(first.Set, secret[:first.Size]), secret[first.Size:]) {
		return nil, nil, api.ErrEscrowWrong
	}
	return secret[:first.Size], coefficients, api.OK
}

// powersOf gives x^0, x^1, .. so many of them.
func powersOf(x byte, n int) []byte {
	var out []byte
	for k := range n {
		out = append(out, power(x, k))
	}
	return out
}

// some gives n bytes that look random and are the same in every run.
func some(seed int64, n int) []byte {
	b := make([]byte, n)
	rand.New(rand.NewSource(seed)).Read(b)
	return b
}

// randomSize is P11.1 of what may be shared.
func randomSize(need, size int) int { return (need - 1) * (size + 4) }

// dealt shares bytes that hang on the seed.
func dealt(t *testing.T, seed int64, size, need, count int) ([]byte, []string) {
	t.Helper()
	secret := some(seed, size)
	lines, e := escrow.Deal(uint16(seed*4099), secret, need, count, some(seed+1000, randomSize(need, size)))
	if e != api.OK || len(lines) != count {
		t.Fatalf("Deal of %d bytes, %d of %d: %d lines, error %d", size, need, count, len(lines), e)
	}
	return secret, lines
}

// rowOf gives the bytes of a line in the one form.
func rowOf(line string) []byte {
	var out []byte
	for _, w := range strings.Split(line, " ") {
		b := numbers[w]
		out = append(out, b[:]...)
	}
	return out
}

// changed gives a line with each of these places' bytes made another.
func changed(r *rand.Rand, line string, places ...int) string {
	row := rowOf(line)
	for _, i := range places {
		row[i] ^= byte(1 + r.Intn(255))
	}
	return modelWords(row)
}

func expect(t *testing.T, name string, got, want api.Errno) {
	t.Helper()
	if got != want {
		t.Errorf("%s: error %d, not %d", name, got, want)
	}
}
