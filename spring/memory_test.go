package spring_test

import (
	"bytes"
	"sync"
	"testing"

	"coffer/api"
	"coffer/spring"
)

// roomy gives a list with spare room behind it, and the whole of its memory.
func roomy(seed int64, n int) (list, all []byte) {
	all = some(seed, n+50)
	return all[:n], all
}

// overwrite spoils a list, its spare room too: whoever shares its memory shows it.
func overwrite(b []byte) {
	b = b[:cap(b)]
	for i := range b {
		b[i] ^= 0xa5
	}
}

// handed is lists that are handed in, each with spare room, in a list with spare room.
type handed struct {
	lists  [][]byte // with lists of the same memory behind its end
	whole  [][]byte // the memory
	before [][]byte // as it was
}

func handIn(sizes ...int) *handed {
	h := &handed{}
	for i, n := range sizes {
		list, all := roomy(int64(400+i), n)
		h.lists = append(h.lists, list)
		h.whole = append(h.whole, all)
		h.before = append(h.before, bytes.Clone(all))
	}
	h.lists = append(h.lists, h.whole...)[:len(sizes)]
	return h
}

// check tells whether the lists, what lies behind each of them, and the list of them are as they were.
func (h *handed) check(t *testing.T, name string) {
	t.Helper()
	n := len(h.lists)
	for i, l := range h.lists[:2*n] {
		if !bytes.Equal(h.whole[i%n], h.before[i%n]) || &l[:1][0] != &h.whole[i%n][0] || i >= n && len(l) != len(h.whole[i-n]) {
			t.Errorf("%s: list %d is changed", name, i)
		}
	}
}

// P6.7: what is handed in is not changed, spare room too, and not kept: it is spoilt behind each call.
func TestNothingHandedIsChangedOrKept(t *testing.T) {
	for _, bits := range hashes {
		in := handIn(40, 20, 30)
		m, _ := modelNew(bits, 9, in.lists[0], in.lists[1], in.lists[2])
		s := mustNew(t, bits, 9, in.lists[0], in.lists[1], in.lists[2])
		in.check(t, "New")
		for _, b := range in.whole {
			overwrite(b)
		}
		in = handIn(0, 3, 70)
		want, _ := m.draw(77, in.lists...)
		got := mustDraw(t, s, 77, in.lists...)
		in.check(t, "Draw")
		for _, b := range in.whole {
			overwrite(b)
		}
		if !bytes.Equal(got, want) {
			t.Errorf("%d: Draw", bits)
		}
		in = handIn(16, 3, 0, 70)
		m.feed(in.lists[0], in.lists[1:]...)
		mustFeed(t, s, in.lists[0], in.lists[1:]...)
		in.check(t, "Feed")
		for _, b := range in.whole {
			overwrite(b)
		}
		if !sameAhead(t, s, m) {
			t.Errorf("%d: behind Feed", bits)
		}
	}
}

// P6.7: calls that are refused change nothing that they are handed.
func TestRefusedChangeNothingHanded(t *testing.T) {
	s := mustNew(t, 256, 1, rising(20), nil, nil)
	in := handIn(16, 65537, 3)
	spring.New(1, 1, in.lists[0], in.lists[1], in.lists[2])
	spring.New(256, 1, in.lists[0], in.lists[1], in.lists[2])
	s.Draw(-1, in.lists...)
	s.Draw(5, in.lists...)
	s.Feed(in.lists[0], in.lists[1:]...)
	mustDraw(t, s, 1)
	s.Draw(5, in.lists[2])
	in.check(t, "refused")
}

// P6.7: an answer is new memory: it may be spoilt, its spare room too, and may be handed in again.
func TestAnswersAreNew(t *testing.T) {
	for _, bits := range hashes {
		for _, n := range []int{1, bits/8 - 1, bits / 8, 100, 65536} {
			s := mustNew(t, bits, 9, rising(20), nil, nil)
			m, _ := modelNew(bits, 9, rising(20), nil, nil)
			c := s.Copy()
			first, second := mustDraw(t, s, n), mustDraw(t, s, n)
			other := mustDraw(t, c, n)
			want, _ := m.draw(n)
			overwrite(first)
			overwrite(other)
			again, _ := m.draw(n)
			if !bytes.Equal(second, again) || !sameAhead(t, s, m) {
				t.Errorf("%d: a draw of %d bytes shares memory", bits, n)
			}
			overwrite(first)
			if !bytes.Equal(first, want) || !bytes.Equal(mustDraw(t, c, n), again) {
				t.Errorf("%d: a draw of %d bytes shares memory with a copy's", bits, n)
			}
			m.draw(n, second, second[:0])
			mustDraw(t, s, n, second, second[:0])
			if !bytes.Equal(second, again) || !sameAhead(t, s, m) {
				t.Errorf("%d: an answer of %d bytes, handed in", bits, n)
			}
		}
	}
}

// P6.7: an answer has no spare room that a later one could lie in.
func TestDrawnListsGrowApart(t *testing.T) {
	s := mustNew(t, 256, 9, rising(20), nil, nil)
	a := mustDraw(t, s, 40)
	b := mustDraw(t, s, 40)
	kept := bytes.Clone(b)
	a = append(a, rising(100)...)
	overwrite(a)
	if !bytes.Equal(b, kept) {
		t.Errorf("what is appended to one answer changes another")
	}
}

// P6.7: Test does not change its bytes, and keeps none of them.
func TestTestedBytesStay(t *testing.T) {
	b, whole := roomy(31, 3000)
	before := bytes.Clone(whole)
	want := modelHealth(b)
	h := mustTest(t, b)
	if !bytes.Equal(whole, before) {
		t.Errorf("the bytes are changed")
	}
	overwrite(whole)
	if h != want || mustTest(t, b) != modelHealth(b) {
		t.Errorf("something is kept")
	}
}

// P6.7: springs each in a goroutine of its own, copies of one among them; Test and Judge of the same by all.
func TestTogether(t *testing.T) {
	var all sync.WaitGroup
	b := some(8, 4000)
	want := modelHealth(b)
	for _, bits := range hashes {
		s := mustNew(t, bits, 5, rising(20), nil, nil)
		m, _ := modelNew(bits, 5, rising(20), nil, nil)
		drawn, _ := m.draw(500, b)
		for range 4 {
			c := s.Copy()
			all.Go(func() {
				got, e := c.Draw(500, b)
				f := c.Feed(b)
				h, g := spring.Test(b)
				if e != api.OK || f != api.OK || g != api.OK || !bytes.Equal(got, drawn) || h != want || spring.Judge(h) != modelJudge(want) {
					t.Errorf("%d: errors %d, %d, %d, or another answer", bits, e, f, g)
				}
			})
		}
	}
	all.Wait()
}
