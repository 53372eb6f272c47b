package slab_test

import (
	"bytes"
	"slices"
	"sync"
	"testing"

	"coffer/api"
	"coffer/slab"
)

// spoil changes a list, and its spare room too: whoever shares its memory shows it.
func spoil[T byte | uint64](list []T) {
	list = list[:cap(list)]
	for i := range list {
		list[i] ^= 0xa5
	}
}

// P5.6, P5.7: each answer is new memory: what is done to it, and to the room behind it, changes neither the slab nor another answer.
func TestAnswersApart(t *testing.T) {
	for _, unit := range units {
		s, m := fresh(t, unit, 5), newModel(unit, 5)
		s.Write(0, full(unit, "AB"))
		m.write(0, full(unit, "AB"))
		s.Flush()
		m.flush()
		s.Write(1, full(unit, "CDE"))
		m.write(1, full(unit, "CDE"))
		for at := range uint64(5) {
			for _, ask := range []func(uint64) ([]byte, api.Errno){s.Peek, s.Rest} {
				a, _ := ask(at)
				b, _ := ask(at)
				kept := bytes.Clone(b)
				if cap(a) != unit {
					t.Errorf("unit %d: %d bytes of spare room", unit, cap(a)-unit)
				}
				spoil(a)
				if !bytes.Equal(b, kept) {
					t.Errorf("unit %d: two answers share memory", unit)
				}
				m.check(t, "an answer is changed", s)
			}
		}
		for _, ask := range []func() []uint64{s.Pending, s.Used} {
			a, b := ask(), ask()
			kept := slices.Clone(b)
			spoil(a)
			if !slices.Equal(b, kept) {
				t.Errorf("unit %d: two lists share memory", unit)
			}
			m.check(t, "a list is changed", s)
		}
	}
}

// P5.3, P5.7: what is handed in is not changed and not kept, nor is a list that was read into.
func TestArgumentsApart(t *testing.T) {
	for _, unit := range units {
		s, m := fresh(t, unit, 5), newModel(unit, 5)
		all := full(unit, "ABCx")
		data := all[:3*unit]
		s.Write(1, data)
		m.write(1, full(unit, "ABC"))
		if !bytes.Equal(all, full(unit, "ABCx")) {
			t.Errorf("unit %d: Write changes what is handed in", unit)
		}
		spoil(data)
		m.check(t, "what was written is changed", s)
		all = full(unit, "Px")
		s.Poke(4, all[:unit])
		m.disk[4] = string(full(unit, "P"))
		if !bytes.Equal(all, full(unit, "Px")) {
			t.Errorf("unit %d: Poke changes what is handed in", unit)
		}
		spoil(all)
		m.check(t, "what was put there by hand is changed", s)
		into := make([]byte, 5*unit)
		s.Read(0, into)
		m.read(0, make([]byte, 5*unit))
		spoil(into)
		m.check(t, "what was read is changed", s)
		s.Flush()
		m.flush()
		m.check(t, "flushed", s)
	}
}

// P5.1, P5.5: a plan, and what is kept, may be changed behind the call.
func TestPlanApart(t *testing.T) {
	plan := []api.Glitch{{Op: 1, Kind: api.GlitchTurn, At: 1, N: 2}, {Op: 1, Kind: api.GlitchFlush}, {Op: 2, Kind: api.GlitchPart, N: 1}, {}}
	given := slices.Clone(plan)
	s := fresh(t, 512, 3, plan[:3]...)
	if !slices.Equal(plan, given) {
		t.Errorf("the plan is changed")
	}
	clear(plan)
	expect(t, "Flush", s.Flush(), api.ErrDevice)
	expect(t, "Write", s.Write(0, full(512, "AB")), api.ErrDevice)
	if b, _ := s.Rest(1); b[0] != 4 || !slices.Equal(s.Pending(), []uint64{0}) {
		t.Errorf("the plan changes behind New")
	}
	keep := []bool{true, false, true}
	s.Restart(keep[:1]...)
	if !slices.Equal(keep, []bool{true, false, true}) {
		t.Errorf("Restart changes what is handed in")
	}
}

// midst gives a slab in the midst of things: with a medium, a log, a plan that is half done, and numbers.
func midst(t *testing.T, unit int) (*slab.Slab, *model) {
	t.Helper()
	plan := []api.Glitch{{Op: 2, Kind: 6, At: 3, N: 7}, {Op: 4, Kind: 3, N: 1}, {Op: 5, Kind: 6, At: 0, N: 1}, {Op: 5, Kind: 6, At: 4, N: 1}, {Op: 5, Kind: 5, N: 1}, {Op: 5, Kind: 2}, {Op: 6, Kind: 1}, {Op: 6, Kind: 4}}
	s, m := fresh(t, unit, 6, plan...), newModel(unit, 6, plan...)
	for _, step := range []struct {
		at      uint64
		letters string
	}{{0, "ABC"}, {1, "DE"}, {0, "F"}, {4, "GH"}} {
		if s.Write(step.at, full(unit, step.letters)) != m.write(step.at, full(unit, step.letters)) {
			t.Fatal("a write answers another thing")
		}
		if step.at == 1 {
			s.Poke(2, full(unit, "K"))
			m.disk[2] = string(full(unit, "K"))
		}
	}
	m.check(t, "in the midst", s)
	return s, m
}

// P5.8: a copy is in all the same, and stays so whatever is done to the first one; and the other way round.
func TestCopyApart(t *testing.T) {
	for _, unit := range units {
		for name, do := range map[string]func(*slab.Slab, *model){
			"nothing": func(*slab.Slab, *model) {},
			"Write":   func(s *slab.Slab, m *model) { s.Write(0, full(unit, "XYZ")); m.write(0, full(unit, "XYZ")) },
			"Flush":   func(s *slab.Slab, m *model) { s.Flush(); m.flush() },
			"Read":    func(s *slab.Slab, m *model) { b := make([]byte, unit); s.Read(0, b); m.read(0, b) },
			"Off":     func(s *slab.Slab, m *model) { s.Off(); m.dark = true },
			"Restart": func(s *slab.Slab, m *model) { s.Restart(true, true); m.restart([]bool{true, true}) },
			"Poke": func(s *slab.Slab, m *model) {
				for at := range uint64(6) {
					s.Poke(at, full(unit, "P"))
					m.disk[at] = string(full(unit, "P"))
				}
			},
			"zeros": func(s *slab.Slab, m *model) {
				s.Restart()
				m.restart(nil)
				for at := range uint64(6) {
					s.Poke(at, make([]byte, unit))
					m.disk[at] = string(make([]byte, unit))
				}
			},
		} {
			s, m := midst(t, unit)
			c, mc := s.Copy(), m.copy()
			if c == s || c == nil {
				t.Fatal("no copy")
			}
			mc.check(t, "a copy", c)
			do(s, m)
			m.check(t, name+" of the first one: the first one", s)
			mc.check(t, name+" of the first one: the copy", c)
			for range 5 {
				b := full(unit, "QR")
				expect(t, name+": a write of the copy", c.Write(2, b), mc.write(2, b))
				c.Restart(true, false, true)
				mc.restart([]bool{true, false, true})
				m.check(t, name+" of the first one, later: the first one", s)
				mc.check(t, name+" of the first one, later: the copy", c)
			}
		}
	}
}

// P5.8: without power a copy has none.
func TestCopyDark(t *testing.T) {
	s, _ := midst(t, 512)
	s.Off()
	c := s.Copy()
	if c.Lit() {
		t.Errorf("a copy has power")
	}
	c.Restart()
	if s.Lit() || !c.Lit() || len(s.Pending()) == 0 {
		t.Errorf("a copy's power is the first one's")
	}
}

// P5.9: copies share nothing: each may be used by a goroutine of its own, while others use theirs.
func TestCopiesTogether(t *testing.T) {
	s, m := midst(t, 512)
	var all sync.WaitGroup
	for range 8 {
		c, mc := s.Copy(), m.copy()
		all.Go(func() {
			for i := range 60 {
				b := full(512, "QRS"[i%3:])
				if e, f := c.Write(uint64(i%3), b), mc.write(uint64(i%3), b); e != f {
					t.Errorf("error %d, not %d", e, f)
				}
				if i%7 == 6 {
					c.Restart(true, false, true)
					mc.restart([]bool{true, false, true})
				}
				if e, f := c.Flush(), mc.flush(); e != f {
					t.Errorf("error %d, not %d", e, f)
				}
			}
			if !slices.Equal(c.Used(), mc.used()) || c.Counts() != mc.counts {
				t.Errorf("another slab")
			}
		})
	}
	all.Wait()
	m.check(t, "the first one", s)
}
