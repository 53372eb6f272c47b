package spring_test

import (
	"testing"

	"coffer/api"
	"coffer/spring"
)

// P6.1 to P6.4: the chapter's example 1.
func TestExample1(t *testing.T) {
	s := mustNew(t, 256, 2, rising(32), nil, nil)
	if s.Left() != 2 {
		t.Errorf("Left %d", s.Left())
	}
	if b, e := s.Draw(0); e != api.OK || len(b) != 0 {
		t.Errorf("Draw(0): %x, error %d", b, e)
	}
	if b, e := s.Draw(4); e != api.OK || len(b) != 4 {
		t.Errorf("Draw(4): %x, error %d", b, e)
	}
	if b, e := s.Draw(4); e != api.ErrThirst || len(b) != 0 {
		t.Errorf("Draw(4) again: %x, error %d", b, e)
	}
	if e := s.Feed(rising(16)); e != api.OK || s.Left() != 2 {
		t.Errorf("Feed: error %d, Left %d", e, s.Left())
	}
	if e := s.Feed(rising(15)); e != api.ErrEntropy {
		t.Errorf("Feed of 15 bytes: error %d", e)
	}
	if _, e := s.Draw(-1); e != api.ErrArg {
		t.Errorf("Draw(-1): error %d", e)
	}
	if _, e := s.Draw(65537); e != api.ErrLong {
		t.Errorf("Draw(65537): error %d", e)
	}
}

// P6.5: the chapter's example 2.
func TestExample2(t *testing.T) {
	want := api.Health{
		Count: 3, Run: 1, Most: 1, Ones: 12, Turned: 3, Poker: 18, Far: 5,
		Ends: [4]api.Walk{{Re: 2, Im: -1}, {Re: 2, Im: -1}, {Re: 1, Im: -2}, {Re: 1, Im: -2}},
	}
	if h := mustTest(t, []byte{0x00, 0xff, 0x0f}); h != want {
		t.Errorf("%+v", h)
	}
	if h := mustTest(t, nil); h != (api.Health{}) {
		t.Errorf("of no bytes: %+v", h)
	}
}

// P6.5, P6.6: the chapter's example 3.
func TestExample3(t *testing.T) {
	h := mustTest(t, make([]byte, 64))
	end := api.Walk{Re: 64}
	want := api.Health{Count: 64, Run: 64, Most: 64, Poker: 16384, Far: 4096, Ends: [4]api.Walk{end, end, end, end}}
	if h != want {
		t.Errorf("%+v", h)
	}
	if e := spring.Judge(h); e != api.ErrSick {
		t.Errorf("Judge: error %d", e)
	}
	if e := spring.Judge(api.Health{}); e != api.ErrArg {
		t.Errorf("Judge of an empty one: error %d", e)
	}
}
