package escrow_test

import (
	"bytes"
	"fmt"
	"math"
	"slices"
	"strings"
	"testing"

	"coffer/api"
	"coffer/escrow"
	"coffer/spring"
)

// P11.1: at each edge of both numbers, and beyond it.
func TestRandom(t *testing.T) {
	for _, need := range []int{math.MinInt, -1, 0, 1, 2, 3, 15, 16, 17, 255, 256, math.MaxInt} {
		for _, size := range []int{math.MinInt, -4, -1, 0, 1, 2, 32, 63, 64, 65, 255, 256, math.MaxInt} {
			want := 0
			if need >= 1 && need <= 16 && size >= 1 && size <= 64 {
				want = (need - 1) * (size + 4)
			}
			if got := escrow.Random(need, size); got != want {
				t.Errorf("Random(%d, %d): %d, not %d", need, size, got, want)
			}
		}
	}
}

// P11.2: secrets of all lengths, all needs, from the fewest shares to all of them.
func TestDeal(t *testing.T) {
	deal := func(set uint16, secret []byte, need, count int, random []byte) {
		t.Helper()
		lines, e := escrow.Deal(set, secret, need, count, random)
		if e != api.OK || !slices.Equal(lines, modelDeal(set, secret, need, count, random)) {
			t.Errorf("Deal(%d) of %d bytes, %d of %d: error %d, or other lines", set, len(secret), need, count, e)
		}
	}
	for size := 1; size <= 64; size++ {
		for _, need := range []int{1, 2, 3, 16} {
			deal(uint16(size*1021), some(int64(size), size), need, need+size%3, some(int64(need), randomSize(need, size)))
		}
	}
	for need := 1; need <= 16; need++ {
		for _, size := range []int{1, 16, 32} {
			deal(uint16(need), some(5, size), need, need, some(int64(need), randomSize(need, size)))
		}
		deal(0xfeff, some(6, 4), need, 255, some(int64(need), randomSize(need, 4)))
	}
	for _, set := range []uint16{0, 1, 255, 256, 257, 0x1234, 0x8000, 0xff00, 0xffff} {
		deal(set, some(7, 9), 3, 4, some(8, randomSize(3, 9)))
	}
	for _, fill := range []byte{0, 1, 0x80, 0xff} {
		deal(1, bytes.Repeat([]byte{fill}, 32), 4, 9, bytes.Repeat([]byte{fill}, randomSize(4, 32)))
	}
	deal(2, some(9, 64), 16, 255, some(10, randomSize(16, 64)))
}

// P11.2: each random byte goes into one value of every share, and none is taken for another.
func TestDealByByte(t *testing.T) {
	secret, zeros := some(11, 5), make([]byte, randomSize(4, 5))
	for at := range zeros {
		for _, b := range []byte{1, 2, 0xff} {
			random := bytes.Clone(zeros)
			random[at] = b
			lines, e := escrow.Deal(7, secret, 4, 6, random)
			if e != api.OK || !slices.Equal(lines, modelDeal(7, secret, 4, 6, random)) {
				t.Errorf("byte %d is %d: error %d, or other lines", at, b, e)
			}
		}
	}
}

// elsewhere is a sharing as another program reckoned it, apart from this one and its tests.
var elsewhere = []string{
	"ruroz basad dafib polaf fosih gulok nuzim majap batis gikov tizil jizod kisab havig kudun",
	"ruroz basaf dadus tuvit lotuj pipaf hanaf donav lurut nijid gakat buboj tomab vuzoj liduk",
	"ruroz basag dagos kitut kasoj sumaf pomif bapov sinot luhid dokit ligaj hamab zajus hatil",
	"ruroz basah daguz gigas jodih fidoh sofuh lupaj pifak litul girob bofim muhab fugup dopoz",
}

// P11.2: the sharing that was reckoned elsewhere.
func TestDealtElsewhere(t *testing.T) {
	secret, random := make([]byte, 16), make([]byte, 40)
	for i := range secret {
		secret[i] = byte(i * 17)
	}
	for i := range random {
		random[i] = byte(i*i + 3)
	}
	lines, e := escrow.Deal(0xbeef, secret, 3, 4, random)
	if e != api.OK || !slices.Equal(lines, elsewhere) {
		t.Errorf("error %d, %q", e, lines)
	}
}

// wrong is a thing that a call refuses. The rank is its place in the order in which the promise names them.
type wrong[A any] struct {
	name string
	rank int
	e    api.Errno
	do   func(a *A)
}

// pairs calls with each thing alone, and with each two of them: the one of the lower rank is told. It is done last, so that it stands where both are of one field.
func pairs[A any](all []wrong[A], ask func(name string, e api.Errno, do ...func(a *A))) {
	for i, a := range all {
		ask(a.name, a.e, a.do)
		for _, b := range all[i+1:] {
			first, last := b, a
			if b.rank < a.rank {
				first, last = a, b
			}
			ask(a.name+"; "+b.name, last.e, first.do, last.do)
		}
	}
}

// dealing is what Deal and Split are called with.
type dealing struct {
	secret      []byte
	need, count int
	random      []byte
	spring      *spring.Spring
}

// notDealt lists what both refuse.
func notDealt() []wrong[dealing] {
	var out []wrong[dealing]
	for _, n := range []int{0, 65, 66, 255, 256, 257, 1 << 16} {
		out = append(out, wrong[dealing]{fmt.Sprint(n, " bytes"), 1, api.ErrEscrowSecret, func(a *dealing) { a.secret = make([]byte, n) }})
	}
	for _, n := range []int{math.MinInt, -1, 0, 17, 18, 255, 256 + 2, math.MaxInt} {
		out = append(out, wrong[dealing]{fmt.Sprint("need ", n), 2, api.ErrEscrowNeed, func(a *dealing) { a.need, a.count = n, min(max(n, 1), 255) }})
	}
	for _, n := range []int{math.MinInt, -1, 0, 1, 2, 256, 257, 256 + 3, math.MaxInt} {
		out = append(out, wrong[dealing]{fmt.Sprint("count ", n), 2, api.ErrEscrowNeed, func(a *dealing) { a.count = n }})
	}
	return append(out, wrong[dealing]{"17 of 17", 2, api.ErrEscrowNeed, func(a *dealing) { a.need, a.count, a.random = 17, 17, make([]byte, 16*12) }})
}

// P11.2: each refusal, and each two of them.
func TestDealRefusals(t *testing.T) {
	all := notDealt()
	for _, n := range []int{0, 1, 12, 23, 25, 36, 1 << 16} {
		all = append(all, wrong[dealing]{fmt.Sprint(n, " random bytes"), 3, api.ErrShort, func(a *dealing) { a.random = make([]byte, n) }})
	}
	pairs(all, func(name string, want api.Errno, do ...func(a *dealing)) {
		a := dealing{secret: some(1, 8), need: 3, count: 5, random: some(2, 24)}
		for _, f := range do {
			f(&a)
		}
		lines, e := escrow.Deal(1, a.secret, a.need, a.count, a.random)
		expect(t, name, e, want)
		if len(lines) != 0 {
			t.Errorf("%s: %d lines", name, len(lines))
		}
	})
	if lines, e := escrow.Deal(1, some(1, 8), 1, 1, []byte{1}); len(lines) != 0 || e != api.ErrShort {
		t.Errorf("need 1, a random byte: %d lines, error %d", len(lines), e)
	}
	if lines, e := escrow.Deal(1, nil, 1, 1, nil); len(lines) != 0 || e != api.ErrEscrowSecret {
		t.Errorf("nil: %d lines, error %d", len(lines), e)
	}
}

// newSpring gives a spring that has so many draws.
func newSpring(t *testing.T, hash, limit int) *spring.Spring {
	t.Helper()
	s, e := spring.New(hash, limit, some(40, 32), some(41, 8), nil)
	if e != api.OK {
		t.Fatal(e)
	}
	return s
}

// alike tells whether two springs go on alike.
func alike(a, b *spring.Spring) bool {
	a, b = a.Copy(), b.Copy()
	if a.Left() != b.Left() {
		return false
	}
	a.Feed(some(42, 16))
	b.Feed(some(42, 16))
	x, _ := a.Draw(32)
	y, _ := b.Draw(32)
	return bytes.Equal(x, y)
}

// P11.3: one draw, of the set's number and the random bytes, without extra.
func TestSplit(t *testing.T) {
	for _, hash := range []int{224, 256, 384, 512} {
		s := newSpring(t, hash, 300)
		for need := 1; need <= 16; need++ {
			for _, size := range []int{1, 2, 31, 32, 63, 64} {
				count := need + need*size%7
				secret, model := some(int64(size), size), s.Copy()
				drawn, _ := model.Draw(2 + randomSize(need, size))
				want := modelDeal(uint16(drawn[0])<<8|uint16(drawn[1]), secret, need, count, drawn[2:])
				lines, e := escrow.Split(s, secret, need, count)
				if e != api.OK || !slices.Equal(lines, want) {
					t.Errorf("%d: Split of %d bytes, %d of %d: error %d, or other lines", hash, size, need, count, e)
				}
				if !alike(s, model) {
					t.Errorf("%d: Split of %d bytes, %d of %d draws otherwise", hash, size, need, count)
				}
			}
		}
	}
}

// P11.3: each refusal, and each two of them; none draws.
func TestSplitRefusals(t *testing.T) {
	thirsty := newSpring(t, 256, 1)
	thirsty.Draw(0)
	all := append(notDealt(),
		wrong[dealing]{"no spring", 3, api.ErrNil, func(a *dealing) { a.spring = nil }},
		wrong[dealing]{"thirst", 4, api.ErrThirst, func(a *dealing) { a.spring = thirsty }})
	pairs(all, func(name string, want api.Errno, do ...func(a *dealing)) {
		s, dry := newSpring(t, 256, 3), thirsty.Copy()
		a := dealing{secret: some(1, 8), need: 3, count: 5, spring: s}
		for _, f := range do {
			f(&a)
		}
		lines, e := escrow.Split(a.spring, a.secret, a.need, a.count)
		expect(t, name, e, want)
		if len(lines) != 0 || !alike(s, newSpring(t, 256, 3)) || !alike(thirsty, dry) {
			t.Errorf("%s: %d lines, or something was drawn", name, len(lines))
		}
	})
}

// P11.3: a spring gives as many sharings as it has draws, each of another set, till it is fed.
func TestSplitTillThirst(t *testing.T) {
	s := newSpring(t, 256, 2)
	for range 3 {
		one, e := escrow.Split(s, some(1, 32), 2, 3)
		expect(t, "first", e, api.OK)
		two, e := escrow.Split(s, some(1, 32), 2, 3)
		expect(t, "second", e, api.OK)
		if _, e := escrow.Join(one[0], two[1]); e != api.ErrEscrowApart {
			t.Errorf("shares of two sharings: error %d", e)
		}
		if lines, e := escrow.Split(s, some(1, 32), 2, 3); len(lines) != 0 || e != api.ErrThirst {
			t.Errorf("third: %d lines, error %d", len(lines), e)
		}
		s.Feed(some(43, 16))
	}
}

// P11.4: all words, each of which is another, and lists of even and odd numbers of bytes.
func TestWords(t *testing.T) {
	seen := map[string]bool{}
	for n := range 1 << 16 {
		b := []byte{byte(n >> 8), byte(n)}
		word := escrow.Words(b)
		if word != modelWords(b) || len(word) != 5 || seen[word] {
			t.Fatalf("%x: %q", b, word)
		}
		seen[word] = true
	}
	b := some(50, 301)
	for n := range len(b) + 1 {
		if got := escrow.Words(b[:n]); got != modelWords(b[:n]) || strings.Count(got, " ") != max(n/2-1, 0) {
			t.Errorf("%d bytes: %q", n, got)
		}
	}
	if escrow.Words(nil) != "" || escrow.Words([]byte{}) != "" || escrow.Words([]byte{200}) != "" {
		t.Errorf("words of less than two bytes")
	}
	long := some(51, 1<<20+1)
	if escrow.Words(long) != modelWords(long) {
		t.Errorf("words of many bytes")
	}
}
