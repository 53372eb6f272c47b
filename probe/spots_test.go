package probe_test

import (
	"fmt"
	"math/rand"
	"slices"
	"testing"

	"coffer/api"
	"coffer/ledger"
	"coffer/probe"
)

// modelSpots tells of each sector what lies there, and then of each run of them.
func modelSpots(m api.Meta) []api.Spot {
	type what struct {
		kind   int
		number uint64
	}
	unit := int64(m.Shape.Unit)
	on := make([]what, m.Shape.Count)
	mark := func(from, bytes int64, w what) {
		for i := from / unit; i < (from+bytes)/unit; i++ {
			on[i] = w
		}
	}
	head, size := int64(m.Shape.Head), int64(m.Shape.Keys)
	mark(0, head, what{1, 0})
	mark(head, head, what{2, 0})
	mark(2*head, size, what{5, 0})
	for _, s := range m.Slots {
		mark(s.Area.Offset, s.Area.Size, what{3, uint64(s.Number)})
	}
	if m.Rotation.On {
		mark(m.Rotation.Area.Offset, m.Rotation.Area.Size, what{4, m.Rotation.To})
	}
	for _, g := range m.Segments {
		mark(2*head+size+int64(g.Start)*unit, int64(g.Count)*unit, what{6, g.Epoch})
	}
	var out []api.Spot
	for i, w := range on {
		if last := len(out) - 1; i > 0 && on[i-1] == w {
			out[last].Count++
		} else {
			out = append(out, api.Spot{Kind: w.kind, Number: w.number, Start: uint64(i), Count: 1})
		}
	}
	return out
}

// placed gives metadata that may be, whose areas lie in any order, some of them side by side.
func placed(t *testing.T, r *rand.Rand) api.Meta {
	t.Helper()
	unit := units[r.Intn(4)]
	m := turning(unit, 1+r.Intn(20), r.Intn(2) == 0, 1+r.Intn(2), uint64(1+r.Intn(9)), 0)
	m.Tokens = nil
	m.Shape.Head = 16384 << r.Intn(2)
	steps := 14 + r.Intn(20)
	m.Shape.Keys = steps * 4096
	m.Shape.Count = uint64((2*m.Shape.Head+m.Shape.Keys)/unit + 1 + r.Intn(20))
	n := m.Shape.Count - uint64((2*m.Shape.Head+m.Shape.Keys)/unit)
	sizes := []int{1, 2, 1, int(ledger.JournalSize(m.Rotation.Mode, m.Rotation.Hot, unit) / 4096)}
	var places [4]int64
	at := r.Intn(3)
	for _, i := range r.Perm(4) {
		places[i] = int64(2*m.Shape.Head + at*4096)
		at += sizes[i]
		if at+9 < steps {
			at += r.Intn(2)
		}
	}
	for i := range m.Slots {
		m.Slots[i].Area.Offset = places[i]
	}
	m.Rotation.Area = api.Area{Offset: places[3], Size: int64(sizes[3]) * 4096}
	m.Rotation.Done = []uint64{0, n, uint64(r.Intn(int(n) + 1))}[r.Intn(3)]
	if r.Intn(3) == 0 {
		m.Rotation, m.Epochs = api.Rotation{}, m.Epochs[1:]
	}
	m.Segments = ledger.Segments(m)
	return m
}

// P15.7, P15.9: what lies where, without a gap.
func TestSpots(t *testing.T) {
	r := rand.New(rand.NewSource(7))
	met := map[string]int{}
	for range 3000 {
		m := placed(t, r)
		if ledger.Check(m) != api.OK {
			met["refused"]++
			continue
		}
		got, e := probe.Spots(m)
		expect(t, "Spots", e, api.OK)
		if want := modelSpots(m); !slices.Equal(got, want) {
			t.Fatalf("%+v: %v, not %v", m, got, want)
		}
		var at uint64
		for _, s := range got {
			if s.Start != at || s.Count == 0 {
				t.Fatalf("%v", got)
			}
			at += s.Count
			met[fmt.Sprint("kind ", s.Kind)]++
		}
		expect(t, "the end", at, m.Shape.Count)
	}
	if met["refused"] > 500 || met["kind 4"] < 1000 || met["kind 5"] < 1000 {
		t.Errorf("%v", met)
	}
}

// P15.7: nothing is free; all is; two free runs.
func TestSpotsEdges(t *testing.T) {
	m := still(4096, 1)
	m.Shape.Keys = 4096
	m.Shape.Count = 10
	m.Slots, m.Tokens = m.Slots[:1], nil
	m.Slots[0].Area.Offset = 32768
	m.Segments = ledger.Segments(m)
	got, e := probe.Spots(m)
	expect(t, "Spots", e, api.OK)
	expect(t, "nothing is free", fmt.Sprint(got), "[{1 0 0 4} {2 0 4 4} {3 1 8 1} {6 5 9 1}]")
	m.Shape.Keys, m.Shape.Count = 4096*3, 1<<32
	m.Slots[0].Area.Offset = 36864
	m.Segments = ledger.Segments(m)
	got, e = probe.Spots(m)
	expect(t, "Spots", e, api.OK)
	expect(t, "two runs", fmt.Sprint(got), "[{1 0 0 4} {2 0 4 4} {5 0 8 1} {3 1 9 1} {5 0 10 1} {6 5 11 4294967285}]")
	m = turning(512, 9, true, 2, 3, 4)
	got, e = probe.Spots(m)
	expect(t, "Spots", e, api.OK)
	expect(t, "a rotation", fmt.Sprint(got), "[{1 0 0 32} {2 0 32 32} {5 0 64 8} {3 1 72 8} {3 30 80 8} {5 0 88 8} {4 8 96 32} {5 0 128 16} {3 4 144 16} {6 5 160 5} {6 8 165 4}]")
}

// P15.7: metadata that may not be.
func TestSpotsRefused(t *testing.T) {
	for name, c := range map[string]struct {
		e  api.Errno
		do func(m *api.Meta)
	}{
		"nothing":             {api.ErrLedgerShape, func(m *api.Meta) { *m = api.Meta{} }},
		"the unit":            {api.ErrLedgerShape, func(m *api.Meta) { m.Shape.Unit = 0 }},
		"the digest":          {api.ErrLedgerDigest, func(m *api.Meta) { m.Digest.Turns = 0 }},
		"no keyslot":          {api.ErrLedgerSlot, func(m *api.Meta) { m.Slots = nil }},
		"a keyslot's":         {api.ErrLedgerSlot, func(m *api.Meta) { m.Slots[0].Number = -1 }},
		"an epoch":            {api.ErrLedgerEpoch, func(m *api.Meta) { m.Epochs = m.Epochs[:1] }},
		"the rotation":        {api.ErrLedgerRotation, func(m *api.Meta) { m.Rotation.Mode = 3 }},
		"a segment":           {api.ErrLedgerSegment, func(m *api.Meta) { m.Segments[0].Count++ }},
		"an area":             {api.ErrLedgerArea, func(m *api.Meta) { m.Slots[0].Area.Offset = -4096 }},
		"a part in common":    {api.ErrLedgerArea, func(m *api.Meta) { m.Rotation.Area.Offset = m.Slots[0].Area.Offset }},
		"a token":             {api.ErrLedgerToken, func(m *api.Meta) { m.Tokens[0].Number = 32 }},
		"the shape, and more": {api.ErrLedgerShape, func(m *api.Meta) { m.Shape.Keys = 1; m.Slots = nil; m.Tokens[0].Number = 32 }},
	} {
		m := turning(512, 9, true, 2, 3, 4)
		c.do(&m)
		got, e := probe.Spots(m)
		expect(t, name, e, c.e)
		expect(t, name, len(got), 0)
	}
}
