package spring_test

import (
	"bytes"
	"go/parser"
	"go/token"
	"math"
	"path/filepath"
	"slices"
	"strconv"
	"strings"
	"testing"

	"coffer/api"
	"coffer/spring"
)

// sameAhead tells whether a spring gives what the model gives from here on.
func sameAhead(t *testing.T, s *spring.Spring, m *model) bool {
	t.Helper()
	c, n := s.Copy(), *m
	if c.Left() != n.limit-n.count {
		return false
	}
	if e := c.Feed(rising(16)); e != api.OK {
		return false
	}
	n.feed(rising(16))
	got, e := c.Draw(100)
	want, _ := n.draw(100)
	return e == api.OK && bytes.Equal(got, want)
}

// P6.1: every digest, each limit, each length at its bounds and beyond; the first of several errors.
func TestNewEdges(t *testing.T) {
	lengths := []int{0, 1, 15, 16, 17, 65535, 65536, 65537}
	for _, bits := range []int{224, 256, 384, 512, 0, 1, -256, 255, 257, 160, 512 + 256, math.MinInt, math.MaxInt} {
		for _, limit := range []int{math.MinInt, -1, 0, 1, 2, 1<<24 - 1, 1 << 24, 1<<24 + 1, math.MaxInt} {
			for _, size := range lengths {
				for _, more := range [][2]int{{0, 0}, {1, 0}, {0, 1}, {65536, 65536}, {65537, 0}, {0, 65537}, {65536, 65537}, {65537, 65536}} {
					entropy, nonce, personal := make([]byte, size), make([]byte, more[0]), make([]byte, more[1])
					s, e := spring.New(bits, limit, entropy, nonce, personal)
					if want := newError(bits, limit, size, more); e != want || (s == nil) != (want != api.OK) {
						t.Fatalf("New(%d, %d, %d bytes, %v): error %d, not %d", bits, limit, size, more, e, want)
					}
					if s != nil && s.Left() != limit {
						t.Fatalf("New(%d, %d, %d bytes, %v): %d left", bits, limit, size, more, s.Left())
					}
				}
			}
		}
	}
}

func newError(bits, limit, size int, more [2]int) api.Errno {
	if !slices.Contains(hashes, bits) {
		return api.ErrHash
	}
	if limit < 1 || limit > 1<<24 {
		return api.ErrArg
	}
	if size < 16 || size > 1<<16 {
		return api.ErrEntropy
	}
	if more[0] > 1<<16 || more[1] > 1<<16 {
		return api.ErrLong
	}
	return api.OK
}

// P6.1: of every digest, what it is made of: entropy, nonce and personal behind one another, all of their bytes.
func TestNewGives(t *testing.T) {
	for _, bits := range hashes {
		for i, c := range [][3]int{{16, 0, 0}, {17, 1, 0}, {32, 0, 1}, {32, 16, 20}, {65536, 65536, 65536}, {65535, 0, 65536}, {16, 65536, 0}} {
			entropy, nonce, personal := some(int64(i), c[0]), some(int64(i+50), c[1]), some(int64(i+100), c[2])
			s := mustNew(t, bits, 3, entropy, nonce, personal)
			m, _ := modelNew(bits, 3, entropy, nonce, personal)
			want, _ := m.draw(200)
			if got := mustDraw(t, s, 200); !bytes.Equal(got, want) {
				t.Errorf("%d, %v: %x", bits, c, got)
			}
		}
	}
}

// P6.2: of every digest, draws of each length about whole V's, with extra and without, and what comes behind them.
func TestDrawLengths(t *testing.T) {
	for _, bits := range hashes {
		n := bits / 8
		for _, length := range []int{0, 1, 2, n - 1, n, n + 1, 2*n - 1, 2 * n, 2*n + 1, 1000, 65535, 65536} {
			for _, extra := range [][]byte{nil, {}, {0}, {1, 2, 3}, some(7, 65536)} {
				s := mustNew(t, bits, 9, rising(20), nil, nil)
				m, _ := modelNew(bits, 9, rising(20), nil, nil)
				for turn := range 2 {
					want, _ := m.draw(length, extra)
					if got := mustDraw(t, s, length, extra); !bytes.Equal(got, want) {
						t.Fatalf("%d: draw %d of %d bytes, %d extra", bits, turn, length, len(extra))
					}
				}
				if !sameAhead(t, s, m) {
					t.Fatalf("%d: behind draws of %d bytes, %d extra", bits, length, len(extra))
				}
			}
		}
	}
}

// splits gives bytes cut into lists in several ways, empty ones among them.
func splits(b []byte) [][][]byte {
	half := len(b) / 2
	ones := [][]byte{}
	for i := range min(len(b), 40) {
		ones = append(ones, b[i:i+1], nil)
	}
	ones = append(ones, b[min(len(b), 40):])
	return [][][]byte{{b}, {b, nil}, {nil, b}, {b[:half], b[half:]}, {{}, b[:half], nil, {}, b[half:], nil}, {b[:len(b)/3], b[len(b)/3 : half], b[half:]}, ones}
}

// P6.2, P6.3: extra counts as one list, however it is cut; no byte in any number of lists is no extra.
func TestExtraIsJoined(t *testing.T) {
	for _, size := range []int{0, 1, 2, 5, 100, 65536} {
		extra := some(3, size)
		for i, lists := range splits(extra) {
			s := mustNew(t, 256, 9, rising(20), nil, nil)
			m, _ := modelNew(256, 9, rising(20), nil, nil)
			want, _ := m.draw(50, extra)
			if got := mustDraw(t, s, 50, lists...); !bytes.Equal(got, want) {
				t.Errorf("Draw: %d bytes, cut %d", size, i)
			}
			mustFeed(t, s, rising(30), lists...)
			m.feed(rising(30), extra)
			if !sameAhead(t, s, m) {
				t.Errorf("Feed: %d bytes, cut %d", size, i)
			}
		}
	}
	none := mustNew(t, 256, 9, rising(20), nil, nil)
	empty := none.Copy()
	if !bytes.Equal(mustDraw(t, none, 9), mustDraw(t, empty, 9, make([][]byte, 100000)...)) || !bytes.Equal(mustDraw(t, none, 9), mustDraw(t, empty, 9)) {
		t.Errorf("empty lists are no extra")
	}
}

// tooMuch gives extra of one byte more than may be, in several lists.
func tooMuch() [][][]byte {
	all := make([]byte, 65537)
	many := [][]byte{}
	for i := range all {
		many = append(many, all[i:i+1])
	}
	return [][][]byte{{all}, {all[:65536], all[:1]}, {all[:1], all[:65536]}, {all[:40000], nil, all[:25537]}, {all, all, all}, many}
}

// P6.2: what is refused, in the order of the errors, changes nothing.
func TestDrawRefused(t *testing.T) {
	for _, thirsty := range []bool{false, true} {
		s := mustNew(t, 384, 2, rising(20), nil, nil)
		m, _ := modelNew(384, 2, rising(20), nil, nil)
		for range 2 {
			if thirsty {
				mustDraw(t, s, 3)
				m.draw(3)
			}
		}
		refuse := func(want api.Errno, n int, extra ...[]byte) {
			t.Helper()
			if b, e := s.Draw(n, extra...); e != want || len(b) != 0 {
				t.Errorf("Draw(%d, %d lists): %d bytes, error %d, not %d", n, len(extra), len(b), e, want)
			}
			if !sameAhead(t, s, m) {
				t.Errorf("Draw(%d, %d lists), refused, has changed something", n, len(extra))
			}
		}
		for _, n := range []int{-1, -2, -65537, math.MinInt} {
			refuse(api.ErrArg, n)
			refuse(api.ErrArg, n, tooMuch()[0]...)
		}
		for _, n := range []int{65537, 65538, math.MaxInt} {
			refuse(api.ErrLong, n)
			refuse(api.ErrLong, n, tooMuch()[1]...)
			refuse(api.ErrLong, n, []byte{1})
		}
		for _, lists := range tooMuch() {
			refuse(api.ErrLong, 0, lists...)
			refuse(api.ErrLong, 65536, lists...)
			refuse(api.ErrArg, -1, lists...)
		}
		if thirsty {
			refuse(api.ErrThirst, 0)
			refuse(api.ErrThirst, 1)
			refuse(api.ErrThirst, 65536, make([]byte, 65536))
		}
	}
}

// P6.2, P6.3, P6.4: just so many draws as the limit between two feeds, a draw of no bytes among them.
func TestCount(t *testing.T) {
	for _, limit := range []int{1, 2, 3, 10} {
		for _, n := range []int{0, 1, 50} {
			s := mustNew(t, 224, limit, rising(20), nil, nil)
			for feed := range 4 {
				for i := range limit {
					if s.Left() != limit-i {
						t.Errorf("limit %d: %d left behind %d draws", limit, s.Left(), i)
					}
					mustDraw(t, s, n)
				}
				for range 3 {
					if b, e := s.Draw(n); e != api.ErrThirst || len(b) != 0 || s.Left() != 0 {
						t.Errorf("limit %d, feed %d: %d bytes, error %d, %d left", limit, feed, len(b), e, s.Left())
					}
				}
				mustFeed(t, s, rising(16))
			}
			mustDraw(t, s, n)
			mustFeed(t, s, rising(16))
			mustFeed(t, s, rising(16))
			if s.Left() != limit {
				t.Errorf("limit %d: %d left behind a feed", limit, s.Left())
			}
		}
	}
	s := mustNew(t, 256, api.MaxDraws, rising(16), nil, nil)
	mustDraw(t, s, 0)
	if s.Left() != 1<<24-1 {
		t.Errorf("%d left", s.Left())
	}
}

// P6.3: each length of entropy and extra at its bounds and beyond, the first of several errors; what is refused changes nothing.
func TestFeedEdges(t *testing.T) {
	for _, bits := range hashes {
		for _, size := range []int{0, 1, 15, 16, 17, 65535, 65536, 65537, 200000} {
			for _, more := range []int{0, 1, 2, 65535, 65536, 65537, 200000} {
				s := mustNew(t, bits, 5, rising(20), nil, nil)
				m, _ := modelNew(bits, 5, rising(20), nil, nil)
				mustDraw(t, s, 5)
				m.draw(5)
				want := m.feed(some(1, size), some(2, more))
				if e := s.Feed(some(1, size), some(2, more)); e != want {
					t.Errorf("Feed(%d bytes, %d extra): error %d, not %d", size, more, e, want)
				}
				if !sameAhead(t, s, m) {
					t.Errorf("behind Feed(%d bytes, %d extra)", size, more)
				}
			}
		}
	}
	s := mustNew(t, 256, 5, rising(20), nil, nil)
	for i, lists := range tooMuch() {
		if e := s.Feed(rising(16), lists...); e != api.ErrLong {
			t.Errorf("extra %d: error %d", i, e)
		}
		if e := s.Feed(rising(15), lists...); e != api.ErrEntropy {
			t.Errorf("extra %d and too little entropy: error %d", i, e)
		}
	}
}

// P6.3: a feed that is refused leaves a thirsty spring thirsty.
func TestFeedRefusedKeepsThirst(t *testing.T) {
	s := mustNew(t, 256, 1, rising(20), nil, nil)
	mustDraw(t, s, 1)
	for _, e := range []api.Errno{s.Feed(nil), s.Feed(rising(15)), s.Feed(rising(65537)), s.Feed(rising(16), make([]byte, 65537))} {
		if _, f := s.Draw(1); e == api.OK || f != api.ErrThirst || s.Left() != 0 {
			t.Errorf("errors %d, %d, %d left", e, f, s.Left())
		}
	}
}

// P6.4: a copy goes on alike, and nothing that is done with one is seen in the other.
func TestCopy(t *testing.T) {
	for _, bits := range hashes {
		s := mustNew(t, bits, 4, rising(20), []byte("n"), nil)
		mustDraw(t, s, 7)
		c := s.Copy()
		if c == s || c.Left() != 3 {
			t.Fatalf("%d: %d left", bits, c.Left())
		}
		want := mustDraw(t, c.Copy(), 90)
		mustDraw(t, s, 1, []byte("x"))
		mustFeed(t, s, some(5, 30))
		mustDraw(t, s, 40)
		if c.Left() != 3 || s.Left() != 3 || !bytes.Equal(mustDraw(t, c, 90), want) {
			t.Errorf("%d: the copy went with the first one", bits)
		}
		first := s.Copy()
		mustFeed(t, c, some(6, 30))
		mustDraw(t, c, 10)
		if !bytes.Equal(mustDraw(t, s, 90), mustDraw(t, first, 90)) || s.Left() != 2 {
			t.Errorf("%d: the first one went with the copy", bits)
		}
	}
}

// P6.4: a copy of a thirsty spring is thirsty, and is fed alone.
func TestCopyOfThirsty(t *testing.T) {
	s := mustNew(t, 256, 1, rising(20), nil, nil)
	mustDraw(t, s, 1)
	c := s.Copy()
	mustFeed(t, c, rising(16))
	if _, e := s.Draw(1); e != api.ErrThirst || c.Left() != 1 || s.Left() != 0 {
		t.Errorf("error %d, %d and %d left", e, s.Left(), c.Left())
	}
}

// Functions: what a nil Spring answers, ahead of any other error.
func TestNil(t *testing.T) {
	var s *spring.Spring
	for _, n := range []int{-1, 0, 1, 65537} {
		if b, e := s.Draw(n, make([]byte, 65537)); e != api.ErrNil || len(b) != 0 {
			t.Errorf("Draw(%d): %d bytes, error %d", n, len(b), e)
		}
	}
	for _, size := range []int{0, 16, 65537} {
		if e := s.Feed(make([]byte, size), make([]byte, 65537)); e != api.ErrNil {
			t.Errorf("Feed(%d bytes): error %d", size, e)
		}
	}
	if s.Left() != 0 || s.Copy() != nil {
		t.Errorf("Left %d, Copy %v", s.Left(), s.Copy())
	}
}

// P6.8: what a spring gives hangs on entropy, nonce and personal joined, not on where one ends; and not on the limit.
func TestMadeOfJoined(t *testing.T) {
	all := some(9, 60)
	for _, bits := range hashes {
		want := mustDraw(t, mustNew(t, bits, 1, all, nil, nil), 70)
		for _, limit := range []int{1, 2, 1 << 24} {
			for _, a := range []int{16, 17, 30, 60} {
				for b := a; b <= 60; b += 5 {
					if got := mustDraw(t, mustNew(t, bits, limit, all[:a], all[a:b], all[b:]), 70); !bytes.Equal(got, want) {
						t.Fatalf("%d: cut at %d and %d, limit %d", bits, a, b, limit)
					}
				}
			}
		}
		for i := range all {
			other := bytes.Clone(all)
			other[i] ^= 1
			if bytes.Equal(mustDraw(t, mustNew(t, bits, 1, other, nil, nil), 70), want) {
				t.Errorf("%d: byte %d does not matter", bits, i)
			}
		}
	}
}

// P6.8: calls that are refused leave no trace, and each hash gives other bytes.
func TestRefusedLeaveNoTrace(t *testing.T) {
	seen := map[string]bool{}
	for _, bits := range hashes {
		a := mustNew(t, bits, 2, rising(20), nil, nil)
		b := mustNew(t, bits, 3, rising(20), nil, nil)
		var drawn []byte
		for i := range 4 {
			a.Draw(-1)
			a.Draw(65537, []byte("x"))
			a.Feed(rising(15), []byte("x"))
			a.Feed(rising(16), make([]byte, 65537))
			if i == 2 {
				a.Draw(5, []byte("thirst"))
				mustFeed(t, a, rising(40))
				mustFeed(t, b, rising(40))
			}
			x := mustDraw(t, a, 33)
			if !bytes.Equal(x, mustDraw(t, b, 33)) {
				t.Errorf("%d: draw %d", bits, i)
			}
			drawn = append(drawn, x...)
		}
		if seen[string(drawn)] {
			t.Errorf("%d gives what another digest gives", bits)
		}
		seen[string(drawn)] = true
	}
}

// P6.9: a draw begins with what a shorter one would have given in its place.
func TestShorterDrawBegins(t *testing.T) {
	for _, bits := range hashes {
		for _, extra := range [][]byte{nil, []byte("extra")} {
			s := mustNew(t, bits, 3, rising(20), nil, nil)
			long := mustDraw(t, s.Copy(), 300, extra)
			for n := range 301 {
				if got := mustDraw(t, s.Copy(), n, extra); !bytes.Equal(got, long[:n]) {
					t.Fatalf("%d: %d bytes", bits, n)
				}
			}
		}
	}
}

// P6.9: behind them both springs go on alike, if both draws needed as many V's; where one needed more, P6.2 has it stand at another V.
func TestAlikeBehindDraws(t *testing.T) {
	for _, bits := range hashes {
		size := bits / 8
		for _, extra := range [][]byte{nil, []byte("extra")} {
			s := mustNew(t, bits, 3, rising(20), nil, nil)
			behind := map[int]string{}
			for n := range 3*size + 1 {
				c := s.Copy()
				mustDraw(t, c, n, extra)
				turns := (n + size - 1) / size
				next := string(mustDraw(t, c, 40))
				if first, there := behind[turns]; there && first != next {
					t.Errorf("%d: draws that need %d V's go on otherwise", bits, turns)
				}
				behind[turns] = next
			}
			if len(behind) != 4 || behind[0] == behind[1] || behind[1] == behind[2] || behind[2] == behind[3] {
				t.Errorf("%d: draws that need other numbers of V's go on alike", bits)
			}
		}
	}
}

func TestImports(t *testing.T) {
	files, err := filepath.Glob("*.go")
	if err != nil || len(files) == 0 {
		t.Fatal(files, err)
	}
	for _, name := range files {
		if strings.HasSuffix(name, "_test.go") {
			continue
		}
		f, err := parser.ParseFile(token.NewFileSet(), name, nil, parser.ImportsOnly)
		if err != nil {
			t.Fatal(err)
		}
		for _, i := range f.Imports {
			path, _ := strconv.Unquote(i.Path.Value)
			if !slices.Contains([]string{"coffer/api", "coffer/digest", "math/bits"}, path) {
				t.Errorf("%s imports %s", name, path)
			}
		}
	}
}
