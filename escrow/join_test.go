package escrow_test

import (
	"bytes"
	"fmt"
	"math"
	"math/rand"
	"slices"
	"strings"
	"testing"

	"coffer/api"
	"coffer/escrow"
)

// joins asks Join for a secret.
func joins(t *testing.T, name string, secret []byte, shares ...string) {
	t.Helper()
	if got, e := escrow.Join(shares...); e != api.OK || !bytes.Equal(got, secret) {
		t.Errorf("%s: %x, not %x, error %d", name, got, secret, e)
	}
}

// parts asks Join and Extend of shares that give nothing back.
func parts(t *testing.T, name string, want api.Errno, shares ...string) {
	t.Helper()
	if got, e := escrow.Join(shares...); len(got) != 0 || e != want {
		t.Errorf("%s: Join: %x, error %d, not %d", name, got, e, want)
	}
	for _, index := range []int{1, 2, 255} {
		if line, e := escrow.Extend(index, shares...); line != "" || e != want {
			t.Errorf("%s: Extend(%d): %q, error %d, not %d", name, index, line, e, want)
		}
	}
	for _, index := range []int{0, 256} {
		if line, e := escrow.Extend(index, shares...); line != "" || e != api.ErrEscrowNeed {
			t.Errorf("%s: Extend(%d): %q, error %d", name, index, line, e)
		}
	}
}

// picked gives some of the lines, in any order.
func picked(r *rand.Rand, lines []string, n int) []string {
	var out []string
	for _, i := range r.Perm(len(lines))[:n] {
		out = append(out, lines[i])
	}
	return out
}

// P11.7, P11.9: any Need of the shares, in any order, of secrets of all lengths; and more of them.
func TestJoin(t *testing.T) {
	r := rand.New(rand.NewSource(10))
	for size := 1; size <= 64; size++ {
		for _, need := range []int{1, 2, 3, 5, 16} {
			secret, lines := dealt(t, int64(size), size, need, need+4)
			for _, n := range []int{need, need, need, need + 1, need + 4} {
				joins(t, fmt.Sprintf("%d bytes, %d of %d", size, n, need), secret, picked(r, lines, n)...)
			}
		}
	}
	for need := 1; need <= 16; need++ {
		secret, lines := dealt(t, int64(need), 32, need, 255)
		joins(t, "the last ones", secret, lines[255-need:]...)
		joins(t, "all", secret, lines...)
		for range 10 {
			joins(t, "any", secret, picked(r, lines, need)...)
		}
	}
}

// P11.9: every choice of three out of six, in every order.
func TestJoinEveryOrder(t *testing.T) {
	secret, lines := dealt(t, 200, 7, 3, 6)
	for a := range 6 {
		for b := range 6 {
			for c := range 6 {
				chosen := []string{lines[a], lines[b], lines[c]}
				if a == b || a == c || b == c {
					parts(t, fmt.Sprint(a, b, c), api.ErrEscrowFew, chosen...)
				} else {
					joins(t, fmt.Sprint(a, b, c), secret, chosen...)
				}
			}
		}
	}
}

// P11.9: some twice, and each changed in up to two bytes, or in one word that is none.
func TestJoinChanged(t *testing.T) {
	r := rand.New(rand.NewSource(11))
	for _, size := range sizes {
		for _, need := range []int{1, 2, 4, 16} {
			secret, lines := dealt(t, int64(size), size, need, need+5)
			length := len(rowOf(lines[0]))
			for range 8 {
				var shares []string
				for _, line := range picked(r, lines, need+r.Intn(6)) {
					for range 1 + r.Intn(2) {
						text := changed(r, line, r.Perm(length)[:r.Intn(3)]...)
						if r.Intn(4) == 0 {
							i := r.Intn(length / 2)
							text = line[:6*i] + "XXXXX" + line[6*i+5:]
						}
						shares = append(shares, strings.ReplaceAll(text, " ", "-\n"))
					}
				}
				r.Shuffle(len(shares), func(i, k int) { shares[i], shares[k] = shares[k], shares[i] })
				joins(t, fmt.Sprintf("%d bytes, need %d", size, need), secret, shares...)
			}
		}
	}
}

// P11.7: fewer than Need, though some are there many times.
func TestJoinFew(t *testing.T) {
	parts(t, "none", api.ErrEscrowFew)
	for need := 2; need <= 16; need++ {
		_, lines := dealt(t, int64(need), 9, need, 20)
		for n := 1; n < need; n++ {
			parts(t, fmt.Sprintf("%d of %d", n, need), api.ErrEscrowFew, lines[:n]...)
			parts(t, fmt.Sprintf("%d of %d, each twice", n, need), api.ErrEscrowFew, slices.Concat(lines[:n], lines[:n])...)
		}
		parts(t, "one, as many times as are needed", api.ErrEscrowFew, slices.Repeat(lines[3:4], need)...)
		other := append([]string{strings.ToUpper(lines[0]), "xxxxx" + lines[0][5:]}, lines[:need-1]...)
		parts(t, "one in other writings", api.ErrEscrowFew, other...)
	}
}

// P11.7: another set, need or size than the first one has, at every place.
func TestJoinOtherSets(t *testing.T) {
	deal := func(set uint16, size, need int) []string {
		lines, e := escrow.Deal(set, some(20, size), need, 9, some(21, randomSize(need, size)))
		expect(t, "Deal", e, api.OK)
		return lines
	}
	lines := deal(0x0102, 8, 3)
	for name, others := range map[string][]string{
		"another set, by its first byte": deal(0x0202, 8, 3),
		"another set, by its last byte":  deal(0x0103, 8, 3),
		"bytes of the set turned":        deal(0x0201, 8, 3),
		"a greater need":                 deal(0x0102, 8, 4),
		"a lesser need":                  deal(0x0102, 8, 2),
		"a longer secret, of one length": deal(0x0102, 9, 3),
		"a shorter secret":               deal(0x0102, 7, 3),
	} {
		for _, n := range []int{1, 2, 3, 4} {
			for at := range n + 1 {
				for _, other := range []string{others[0], others[6]} {
					parts(t, fmt.Sprintf("%s, at %d of %d", name, at, n), api.ErrEscrowApart, slices.Insert(slices.Clone(lines[:n]), at, other)...)
				}
			}
		}
		parts(t, name+", enough of both", api.ErrEscrowApart, slices.Concat(lines[:4], others[4:])...)
	}
}

// withValue gives a line with value i changed, as a share of its own.
func withValue(line string, i int, by byte) string {
	row := rowOf(line)
	row[5+i] ^= by
	return modelWords(coded(row[:len(row)-4]))
}

// P11.7: two of one index with unlike values, whichever value it is and wherever they stand.
func TestJoinTwice(t *testing.T) {
	for _, size := range []int{1, 8, 64} {
		_, lines := dealt(t, int64(size), size, 3, 6)
		for i := range size + 4 {
			for k := range 4 {
				other := withValue(lines[k], i, 0x80)
				name := fmt.Sprintf("%d bytes, value %d of share %d", size, i, k+1)
				parts(t, name, api.ErrEscrowTwice, slices.Concat([]string{other}, lines)...)
				parts(t, name+", last", api.ErrEscrowTwice, slices.Concat(lines, []string{other})...)
				parts(t, name+", no more", api.ErrEscrowTwice, lines[k], other)
				parts(t, name+", one of them twice", api.ErrEscrowTwice, lines[k], lines[k], other, lines[k])
			}
		}
	}
}

// P11.7: a stray among more than Need, and among just so many, where the check alone tells it.
func TestJoinWrong(t *testing.T) {
	t.Parallel()
	for _, size := range []int{1, 8, 64} {
		for _, need := range []int{1, 2, 3, 16} {
			_, lines := dealt(t, int64(size), size, need, need+3)
			for i := range size + 4 {
				for _, n := range []int{need, need + 1, need + 3} {
					for _, at := range []int{0, n / 2, n - 1} {
						shares := slices.Clone(lines[:n])
						shares[at] = withValue(shares[at], i, 0x11)
						parts(t, fmt.Sprintf("%d bytes, need %d, value %d of share %d of %d", size, need, i, at+1, n), api.ErrEscrowWrong, shares...)
					}
				}
			}
		}
	}
}

// sharing gives lines of any row, be its check right or not.
func sharing(set uint16, row []byte, need, count int, random []byte) []string {
	var out []string
	for x := 1; x <= count; x++ {
		s := api.Share{Set: set, Need: need, Index: x, Size: len(row) - 4}
		out = append(out, modelWords(bytesOf(s, modelValues(row, need, random, byte(x)))))
	}
	return out
}

// P11.7: shares that lie on polynomials, of a secret whose check is wrong in one bit; it is the set's too.
func TestJoinCheck(t *testing.T) {
	t.Parallel()
	for _, size := range []int{1, 2, 33, 64} {
		for _, need := range []int{1, 3} {
			secret, random := some(30, size), some(31, randomSize(need, size))
			row := append(bytes.Clone(secret), modelCheck(0x1234, secret)...)
			joins(t, "right", secret, sharing(0x1234, row, need, need+2, random)...)
			for _, set := range []uint16{0x1235, 0x1334, 0x3412} {
				parts(t, "another set", api.ErrEscrowWrong, sharing(set, row, need, need+2, random)...)
			}
			for bit := range 8 * len(row) {
				other := bytes.Clone(row)
				other[bit/8] ^= 1 << (bit % 8)
				for _, n := range []int{need, need + 2} {
					parts(t, fmt.Sprintf("%d bytes, bit %d", size, bit), api.ErrEscrowWrong, sharing(0x1234, other, need, n, random)...)
				}
			}
		}
	}
}

// P11.7: shares that were made with a greater need than they say do not fit, as soon as there are more than that.
func TestJoinOfHigherPower(t *testing.T) {
	secret := some(32, 9)
	row := append(bytes.Clone(secret), modelCheck(5, secret)...)
	for need := 1; need <= 4; need++ {
		var lines []string
		for x := 1; x <= 7; x++ {
			s := api.Share{Set: 5, Need: need, Index: x, Size: 9}
			lines = append(lines, modelWords(bytesOf(s, modelValues(row, need+1, some(33, randomSize(need+1, 9)), byte(x)))))
		}
		for n := need; n <= 7; n++ {
			parts(t, fmt.Sprintf("%d of %d", n, need), api.ErrEscrowWrong, lines[:n]...)
		}
	}
}

// P11.7: shares of a lesser power than they might have are a sharing as well: random bytes may be zeros.
func TestJoinOfLesserPower(t *testing.T) {
	r := rand.New(rand.NewSource(12))
	secret := some(34, 20)
	for need := 2; need <= 16; need++ {
		random := some(35, randomSize(need, 20))
		clear(random[24*r.Intn(need-1):])
		lines, e := escrow.Deal(9, secret, need, 30, random)
		expect(t, "Deal", e, api.OK)
		joins(t, "some", secret, picked(r, lines, need)...)
		joins(t, "all", secret, lines...)
	}
}

// P11.7: each refusal ahead of those that the promise names behind it, in whatever order the shares come.
func TestJoinOrder(t *testing.T) {
	_, lines := dealt(t, 300, 8, 3, 9)
	_, others := dealt(t, 301, 8, 3, 9)
	type flaw struct {
		share string
		e     api.Errno
	}
	flaws := []flaw{ // each is told ahead of those behind it
		{strings.Repeat(" ", 1025), api.ErrLong},
		{others[5], api.ErrEscrowApart},
		{withValue(lines[0], 3, 9), api.ErrEscrowTwice},
	}
	for _, base := range [][]string{lines[:2], lines[:3], lines[:5], {lines[0], lines[1], withValue(lines[4], 1, 7)}} {
		for mask := 1; mask < 1<<len(flaws); mask++ {
			shares := slices.Clone(base)
			want := api.OK
			for i, f := range flaws {
				if mask>>i&1 == 1 {
					shares = append(shares, f.share)
					if want == api.OK {
						want = f.e
					}
				}
			}
			for range shares {
				shares = append(shares[1:], shares[0])
				parts(t, fmt.Sprintf("%d shares, flaws %b", len(base), mask), want, shares...)
				back := slices.Clone(shares)
				slices.Reverse(back)
				parts(t, fmt.Sprintf("%d shares, flaws %b, turned", len(base), mask), want, back...)
			}
		}
	}
	parts(t, "a stray, too few", api.ErrEscrowFew, lines[0], withValue(lines[4], 1, 7))
	parts(t, "a stray, enough", api.ErrEscrowWrong, lines[0], lines[1], withValue(lines[4], 1, 7))
}

// P11.7: of several shares that are none the first one is told, ahead of all else.
func TestJoinFirstError(t *testing.T) {
	_, lines := dealt(t, 302, 8, 2, 4)
	no := map[api.Errno]string{api.ErrLong: strings.Repeat("-", 1025), api.ErrEscrowWord: "baba", api.ErrEscrowShare: "babab"}
	for first, one := range no {
		for _, other := range no {
			parts(t, "first", first, one, other)
			parts(t, "behind shares", first, lines[0], lines[1], one, lines[2], other, lines[3])
			parts(t, "and the same again", first, lines[0], lines[0], one, one, other)
		}
	}
	parts(t, "an empty one", api.ErrEscrowShare, lines[0], lines[1], "")
}

// P11.8: an index that no share has is told ahead of what the shares are.
func TestExtendIndex(t *testing.T) {
	_, lines := dealt(t, 303, 8, 2, 4)
	for _, index := range []int{math.MinInt, -256, -255, -1, 0, 256, 257, 511, 512, math.MaxInt} {
		for name, shares := range map[string][]string{"right": lines, "none": nil, "few": lines[:1], "wrong": {lines[0], withValue(lines[1], 0, 1)}, "no share": {"x"}, "long": {strings.Repeat("x", 1025)}} {
			if line, e := escrow.Extend(index, shares...); line != "" || e != api.ErrEscrowNeed {
				t.Errorf("Extend(%d), %s: %q, error %d", index, name, line, e)
			}
		}
	}
}

// P11.8, P11.12: every share, out of any Need of them.
func TestExtend(t *testing.T) {
	r := rand.New(rand.NewSource(13))
	for _, size := range sizes {
		for _, need := range []int{1, 2, 3, 16} {
			_, lines := dealt(t, int64(size), size, need, 255)
			for i := 1 + r.Intn(5); i <= 255; i += 1 + r.Intn(9) {
				shares := picked(r, lines, need+r.Intn(3))
				if line, e := escrow.Extend(i, shares...); line != lines[i-1] || e != api.OK {
					t.Errorf("%d bytes, need %d, index %d: error %d, or another line", size, need, i, e)
				}
			}
		}
	}
	_, lines := dealt(t, 304, 3, 2, 255)
	for i := 1; i <= 255; i++ {
		if line, e := escrow.Extend(i, lines[254], lines[99]); line != lines[i-1] || e != api.OK {
			t.Errorf("index %d: %q, error %d", i, line, e)
		}
	}
}

// P11.12: what Extend makes is as good as what Deal made: a chain of them gives the secret, and one of the old ones.
func TestExtendChain(t *testing.T) {
	secret, lines := dealt(t, 305, 32, 4, 4)
	shares := slices.Clone(lines)
	for i := 5; i <= 60; i++ {
		line, e := escrow.Extend(i, shares...)
		expect(t, "Extend", e, api.OK)
		shares = append(shares[1:], line)
		joins(t, fmt.Sprint("up to ", i), secret, shares...)
	}
	if line, e := escrow.Extend(2, shares...); line != lines[1] || e != api.OK {
		t.Errorf("back to 2: %q, error %d", line, e)
	}
}

// P11.7, P11.8: any shares, strays and texts are what the model says.
func TestJoinAny(t *testing.T) {
	t.Parallel()
	r := rand.New(rand.NewSource(14))
	count := map[api.Errno]int{}
	for run := range 1500 {
		need := 1 + r.Intn(4)
		size := 1 + r.Intn(9)
		_, lines := dealt(t, int64(run), size, need, 7)
		_, others := dealt(t, int64(run+r.Intn(2)*65536), 1+r.Intn(9), need, 7)
		var shares []string
		for range r.Intn(7) {
			line := lines[r.Intn(7)]
			switch r.Intn(24) {
			case 0:
				line = others[r.Intn(7)]
			case 1:
				line = withValue(line, r.Intn(size+4), byte(r.Intn(256)))
			case 2:
				line = changed(r, line, r.Perm(14)[:r.Intn(4)]...)
			case 3:
				line = line[r.Intn(3):]
			}
			shares = append(shares, line)
		}
		secret, coefficients, want := modelJoin(t, shares)
		count[want]++
		if want != api.OK {
			parts(t, "any", want, shares...)
			continue
		}
		joins(t, "any", secret, shares...)
		told, _ := escrow.Tell(shares[0])
		told.Index = 1 + r.Intn(255)
		var values []byte
		for _, c := range coefficients {
			var sum byte
			for k, f := range c {
				sum ^= times(f, power(byte(told.Index), k))
			}
			values = append(values, sum)
		}
		if line, e := escrow.Extend(told.Index, shares...); line != modelWords(bytesOf(told, values)) || e != api.OK {
			t.Errorf("Extend(%d): error %d, or another line", told.Index, e)
		}
	}
	t.Log(count)
}
