package escrow_test

import (
	"bytes"
	"fmt"
	"math/rand"
	"slices"
	"testing"

	"coffer/api"
	"coffer/escrow"
)

// fitting gives the random bytes with which a secret is shared so that these shares come out, one fewer than are needed: of each value the coefficients that give the row at 0 and the shares' values at their indices.
func fitting(t *testing.T, set uint16, secret []byte, need int, lines []string) []byte {
	t.Helper()
	shares, e := modelShares(t, lines)
	expect(t, "shares", e, api.OK)
	row := append(bytes.Clone(secret), modelCheck(set, secret)...)
	random := make([]byte, randomSize(need, len(secret)))
	for i, b := range row {
		equations := [][]byte{append(powersOf(0, need), b)}
		for _, s := range shares {
			equations = append(equations, append(powersOf(byte(s.Index), need), s.values[i]))
		}
		c, ok := solve(equations)
		if !ok {
			t.Fatal("no random bytes")
		}
		for j := 1; j < need; j++ {
			random[(j-1)*len(row)+i] = c[j]
		}
	}
	return random
}

// P11.10: Need - 1 shares fit every other secret of the same length.
func TestOneFewerTellsNothing(t *testing.T) {
	r := rand.New(rand.NewSource(20))
	for need := 1; need <= 16; need++ {
		for _, size := range []int{1, 2, 32, 64} {
			count := need + 5
			_, lines := dealt(t, int64(size), size, need, count)
			told, e := escrow.Tell(lines[0])
			expect(t, "Tell", e, api.OK)
			for range 5 {
				chosen := r.Perm(count)[:need-1]
				var shares []string
				for _, i := range chosen {
					shares = append(shares, lines[i])
				}
				secret := some(r.Int63(), size)
				again, e := escrow.Deal(told.Set, secret, need, count, fitting(t, told.Set, secret, need, shares))
				expect(t, "Deal", e, api.OK)
				for _, i := range chosen {
					if again[i] != lines[i] {
						t.Errorf("%d bytes, need %d: share %d is another", size, need, i+1)
					}
				}
				joins(t, "the other secret", secret, picked(r, again, need)...)
			}
		}
	}
}

// P11.10: one share of two, and every secret of one byte: all of them are as good, with unlike random bytes.
func TestOneShareFitsAllSecrets(t *testing.T) {
	_, lines := dealt(t, 70, 1, 2, 3)
	told, _ := escrow.Tell(lines[1])
	seen := map[string]bool{}
	for b := range 256 {
		random := fitting(t, told.Set, []byte{byte(b)}, 2, lines[1:2])
		seen[string(random)] = true
		again, e := escrow.Deal(told.Set, []byte{byte(b)}, 2, 3, random)
		if e != api.OK || again[1] != lines[1] {
			t.Errorf("secret %d: error %d, or another share", b, e)
		}
	}
	if len(seen) != 256 {
		t.Errorf("%d unlike random bytes", len(seen))
	}
}

// near gives a share that is like another one but for a little.
func near(r *rand.Rand, s part) part {
	s.values = bytes.Clone(s.values)
	switch r.Intn(5) {
	case 0:
		s.Set ^= 1 << r.Intn(16)
	case 1:
		s.Need = 1 + (s.Need+r.Intn(15))%16
	case 2:
		s.Index = 1 + (s.Index+r.Intn(254))%255
	case 3:
		s.Size = s.Size ^ 1
		s.values = append(s.values, 0)[:s.Size+4]
	default:
		for range 1 + r.Intn(4) {
			s.values[r.Intn(len(s.values))] ^= byte(r.Intn(256))
		}
	}
	return s
}

// P11.11: rows of one length that are unlike differ in five bytes or more, however like the shares are; what differs from one in up to two bytes is mended to it.
func TestFiveApart(t *testing.T) {
	r := rand.New(rand.NewSource(21))
	least := 100
	for range 3000 {
		size := 2 + r.Intn(62)
		s := part{api.Share{Set: uint16(r.Int()), Need: 1 + r.Intn(16), Index: 1 + r.Intn(255), Size: size}, some(r.Int63(), size+4)}
		other := near(r, s)
		one, n, e := escrow.Mend(modelWords(bytesOf(s.Share, s.values)))
		two, m, f := escrow.Mend(modelWords(bytesOf(other.Share, other.values)))
		if n != 0 || m != 0 || e != api.OK || f != api.OK {
			t.Fatalf("%v, %v: %d, %d wrong, errors %d, %d", s.Share, other.Share, n, m, e, f)
		}
		a, b := rowOf(one), rowOf(two)
		if len(a) != len(b) || bytes.Equal(a, b) {
			continue
		}
		d := distance(a, b)
		least = min(least, d)
		if d < 5 {
			t.Errorf("%v and %v differ in %d bytes", s.Share, other.Share, d)
		}
	}
	if least != 5 {
		t.Errorf("none differ in five: the least is %d", least)
	}
}

// P11.11: of Deal's own lines too, of one sharing and of sharings that differ in one byte of the secret.
func TestDealtLinesApart(t *testing.T) {
	var rows [][]byte
	for i := range 6 {
		secret := some(71, 9)
		secret[4] ^= byte(i)
		lines, e := escrow.Deal(uint16(i/3), secret, 2, 40, some(72, randomSize(2, 9)))
		expect(t, "Deal", e, api.OK)
		for _, line := range lines {
			rows = append(rows, rowOf(line))
		}
	}
	for i, a := range rows {
		for _, b := range rows[:i] {
			if distance(a, b) < 5 {
				t.Fatalf("%x and %x", a, b)
			}
		}
	}
}

// P11.9, P11.12 on one sharing of each need: some lost, some hurt, some made anew.
func TestWhole(t *testing.T) {
	r := rand.New(rand.NewSource(22))
	for need := 1; need <= 16; need++ {
		s := newSpring(t, 512, 5)
		secret := some(int64(need), 32)
		lines, e := escrow.Split(s, secret, need, need+6)
		expect(t, "Split", e, api.OK)
		var held []string
		for _, line := range picked(r, lines, need) {
			held = append(held, changed(r, line, r.Perm(46)[:2]...))
		}
		more, e := escrow.Extend(200, held...)
		expect(t, "Extend", e, api.OK)
		mended, n, e := escrow.Mend(held[0])
		if n != 2 || e != api.OK || !slices.Contains(lines, mended) {
			t.Errorf("need %d: Mend: %d wrong, error %d", need, n, e)
		}
		joins(t, fmt.Sprint("need ", need), secret, append(held[1:], more)...)
	}
}
