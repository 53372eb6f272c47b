package slab_test

import (
	"bytes"
	"math/big"
	"slices"
	"strings"
	"testing"

	"coffer/api"
	"coffer/slab"
)

// units are those that a slab may have.
var units = []int{512, 1024, 2048, 4096}

// modelWrite is a write of one sector.
type modelWrite struct {
	at   uint64
	data string
}

// model is the chapter's words a second time, with nothing but lists: for slabs of few sectors.
type model struct {
	unit   int
	disk   []string
	log    []modelWrite
	plan   []api.Glitch
	dark   bool
	ops    int64
	counts api.SlabCounts
}

func newModel(unit int, count uint64, plan ...api.Glitch) *model {
	zeros := strings.Repeat("\x00", unit)
	return &model{unit: unit, plan: slices.Clone(plan), disk: slices.Repeat([]string{zeros}, int(count))}
}

func (m *model) copy() *model {
	c := *m
	c.disk, c.log, c.plan = slices.Clone(m.disk), slices.Clone(m.log), slices.Clone(m.plan)
	return &c
}

func (m *model) now(at uint64) string {
	for _, w := range slices.Backward(m.log) {
		if w.at == at {
			return w.data
		}
	}
	return m.disk[at]
}

// refused reckons with whole numbers that have no bound.
func (m *model) refused(at uint64, n int) api.Errno {
	end := new(big.Int).SetUint64(at)
	end.Add(end, big.NewInt(int64(n/m.unit)))
	switch {
	case m.dark:
		return api.ErrOff
	case n == 0 || n%m.unit > 0:
		return api.ErrShort
	case n > 8192*m.unit:
		return api.ErrLong
	case end.Cmp(big.NewInt(int64(len(m.disk)))) > 0:
		return api.ErrSector
	}
	return api.OK
}

// begin is what happens ahead of an operation that can have glitches of some kinds: which one it meets.
func (m *model) begin(kinds ...int) api.Glitch {
	m.ops++
	for _, g := range m.plan {
		if g.Op == m.ops && g.Kind == 6 {
			b := []byte(m.disk[g.At])
			b[g.N>>3] ^= 1 << uint(g.N&7)
			m.disk[g.At] = string(b)
		}
	}
	for _, g := range m.plan {
		if g.Op == m.ops && slices.Contains(kinds, g.Kind) {
			if g.Kind == 5 {
				m.dark = true
			}
			return g
		}
	}
	return api.Glitch{}
}

// answer of an operation that met a glitch of that kind.
func answer(kind int) api.Errno {
	return []api.Errno{api.OK, api.ErrDevice, api.ErrDevice, api.ErrDevice, api.ErrDevice, api.ErrOff}[kind]
}

func (m *model) read(at uint64, into []byte) api.Errno {
	if e := m.refused(at, len(into)); e != api.OK {
		return e
	}
	m.counts.Reads++
	g := m.begin(1, 5)
	if g.Kind == 0 {
		for i := 0; i < len(into); i += m.unit {
			copy(into[i:], m.now(at+uint64(i/m.unit)))
			m.counts.Fetched++
		}
	}
	return answer(g.Kind)
}

func (m *model) write(at uint64, data []byte) api.Errno {
	if e := m.refused(at, len(data)); e != api.OK {
		return e
	}
	m.counts.Writes++
	g := m.begin(2, 3, 5)
	for i := 0; i < len(data)/m.unit; i++ {
		if g.Kind == 0 || g.Kind != 2 && i < g.N {
			m.log = append(m.log, modelWrite{at + uint64(i), string(data[i*m.unit : (i+1)*m.unit])})
			m.counts.Stored++
		}
	}
	return answer(g.Kind)
}

func (m *model) flush() api.Errno {
	if m.dark {
		return api.ErrOff
	}
	m.counts.Flushes++
	g := m.begin(4, 5)
	if g.Kind == 0 {
		for _, w := range m.log {
			m.disk[w.at] = w.data
		}
		m.log = nil
	}
	return answer(g.Kind)
}

func (m *model) restart(keep []bool) {
	for i, w := range m.log {
		if i < len(keep) && keep[i] {
			m.disk[w.at] = w.data
		}
	}
	m.log, m.dark = nil, false
}

func (m *model) pending() []uint64 {
	var out []uint64
	for _, w := range m.log {
		out = append(out, w.at)
	}
	return out
}

func (m *model) used() []uint64 {
	var out []uint64
	for at := range uint64(len(m.disk)) {
		if strings.Trim(m.disk[at]+m.now(at), "\x00") != "" {
			out = append(out, at)
		}
	}
	return out
}

// check holds all that a slab tells against the model.
func (m *model) check(t *testing.T, name string, s *slab.Slab) {
	t.Helper()
	if s.Unit() != m.unit || s.Count() != uint64(len(m.disk)) || s.Lit() == m.dark || s.Ops() != m.ops || s.Counts() != m.counts {
		t.Fatalf("%s: unit %d, count %d, lit %v, %d operations, %v; not %d, %d, %v, %d, %v", name, s.Unit(), s.Count(), s.Lit(), s.Ops(), s.Counts(), m.unit, len(m.disk), !m.dark, m.ops, m.counts)
	}
	if p := s.Pending(); !slices.Equal(p, m.pending()) {
		t.Fatalf("%s: pending %d, not %d", name, p, m.pending())
	}
	if u := s.Used(); !slices.Equal(u, m.used()) {
		t.Fatalf("%s: used %d, not %d", name, u, m.used())
	}
	for at := range uint64(len(m.disk)) {
		now, e := s.Peek(at)
		rest, f := s.Rest(at)
		if e != api.OK || f != api.OK || string(now) != m.now(at) || string(rest) != m.disk[at] {
			t.Fatalf("%s: sector %d holds another thing: errors %d, %d", name, at, e, f)
		}
	}
}

// fresh gives a slab that may be.
func fresh(t *testing.T, unit int, count uint64, plan ...api.Glitch) *slab.Slab {
	t.Helper()
	s, e := slab.New(unit, count, plan...)
	if s == nil || e != api.OK {
		t.Fatalf("New(%d, %d): error %d", unit, count, e)
	}
	return s
}

// full gives sectors, each full of one letter.
func full(unit int, letters string) []byte {
	var out []byte
	for _, c := range []byte(letters) {
		out = append(out, bytes.Repeat([]byte{c}, unit)...)
	}
	return out
}

// letters tells what sectors hold, where each is full of one byte: "." for zeros, "?" for a mixture.
func letters(t *testing.T, s *slab.Slab, ask func(uint64) ([]byte, api.Errno)) string {
	t.Helper()
	var out strings.Builder
	for at := range s.Count() {
		b, e := ask(at)
		switch {
		case e != api.OK || len(b) != s.Unit():
			t.Fatalf("sector %d: %d bytes, error %d", at, len(b), e)
		case !bytes.Equal(b, bytes.Repeat(b[:1], len(b))):
			out.WriteByte('?')
		case b[0] == 0:
			out.WriteByte('.')
		default:
			out.WriteByte(b[0])
		}
	}
	return out.String()
}

// show tells what all sectors hold now, and on the medium.
func show(t *testing.T, s *slab.Slab) string {
	t.Helper()
	return letters(t, s, s.Peek) + " " + letters(t, s, s.Rest)
}

// expect holds an answer against the one that the chapter asks for.
func expect(t *testing.T, name string, got, want api.Errno) {
	t.Helper()
	if got != want {
		t.Errorf("%s: error %d, not %d", name, got, want)
	}
}
