package spring_test

import (
	"bytes"
	"math/rand"
	"testing"

	"coffer/api"
	"coffer/spring"
)

// pair is a spring and the model of it.
type pair struct {
	s *spring.Spring
	m *model
}

func (p pair) copy() pair {
	m := *p.m
	return pair{p.s.Copy(), &m}
}

// pick gives one of some numbers.
func pick(r *rand.Rand, from ...int) int { return from[r.Intn(len(from))] }

// anyExtra gives lists, now and then more bytes than may be.
func anyExtra(r *rand.Rand) [][]byte {
	var lists [][]byte
	for range r.Intn(4) {
		lists = append(lists, some(r.Int63(), pick(r, 0, 0, 1, 2, 30, 100)))
	}
	if r.Intn(20) == 0 {
		lists = append(lists, make([]byte, pick(r, 65400, 65536, 65537)))
	}
	return lists
}

// play makes one call on both and holds the answers against each other.
func (p pair) play(t *testing.T, r *rand.Rand) {
	t.Helper()
	extra := anyExtra(r)
	if r.Intn(4) == 0 {
		entropy := some(r.Int63(), pick(r, 0, 15, 16, 17, 40, 65536, 65537))
		if e, want := p.s.Feed(entropy, extra...), p.m.feed(entropy, extra...); e != want {
			t.Fatalf("Feed(%d bytes): error %d, not %d", len(entropy), e, want)
		}
		return
	}
	n := pick(r, -1, 0, 1, 5, 28, 32, 33, 48, 63, 64, 65, 100, 1000, 65537)
	got, e := p.s.Draw(n, extra...)
	want, f := p.m.draw(n, extra...)
	if e != f || !bytes.Equal(got, want) {
		t.Fatalf("Draw(%d): %x, error %d, not %x, %d", n, got, e, want, f)
	}
}

// P6.1 to P6.4, P6.8: any calls on springs and copies of them answer what the second reckoning does.
func TestAnyCalls(t *testing.T) {
	r := rand.New(rand.NewSource(61))
	met := map[api.Errno]int{}
	for range 300 {
		bits, limit := pick(r, hashes...), pick(r, 1, 2, 3, 8, 1<<24)
		entropy, nonce, personal := some(r.Int63(), 16+r.Intn(40)), some(r.Int63(), r.Intn(20)), some(r.Int63(), r.Intn(20))
		m, _ := modelNew(bits, limit, entropy, nonce, personal)
		all := []pair{{mustNew(t, bits, limit, entropy, nonce, personal), m}}
		for range 60 {
			p := all[r.Intn(len(all))]
			if r.Intn(15) == 0 {
				all = append(all, p.copy())
			}
			p.play(t, r)
			for i, q := range all {
				if q.s.Left() != q.m.limit-q.m.count {
					t.Fatalf("spring %d: %d left, not %d", i, q.s.Left(), q.m.limit-q.m.count)
				}
			}
			_, e := p.copy().s.Draw(0)
			met[e]++
		}
		for _, p := range all {
			if !sameAhead(t, p.s, p.m) {
				t.Fatalf("%d, limit %d: a spring has gone another way", bits, limit)
			}
		}
	}
	if met[api.OK] == 0 || met[api.ErrThirst] == 0 {
		t.Errorf("not all was met: %v", met)
	}
}
