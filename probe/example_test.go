package probe_test

import (
	"fmt"
	"slices"
	"testing"

	"coffer/api"
	"coffer/probe"
	"coffer/slab"
)

func TestExample1(t *testing.T) {
	d, e := slab.New(512, 80)
	must(t, "New", e)
	s, e := probe.Look(d)
	expect(t, "Look", e, api.OK)
	want := api.Seen{Unit: 512, Count: 80, First: api.SeenCopy{Why: api.ErrMagic}, Second: api.SeenCopy{Why: api.ErrHeader}}
	if !sameSeen(s, want) {
		t.Errorf("%+v", s)
	}
	text, e := probe.Dump(d)
	expect(t, "Dump", e, api.OK)
	expect(t, "Dump", text, "device 512 80\nfirst error 81\nsecond error 80\ntakes none\n")
	expect(t, "counts", d.Counts().Writes+d.Counts().Flushes, 0)
}

func TestExample2(t *testing.T) {
	expect(t, "Quote", probe.Quote("a\"\x00\xc8"), `"a\x22\x00\xc8"`)
}

func TestExample3(t *testing.T) {
	m := api.Meta{Slots: []api.Slot{{Number: 0, Priority: 1}, {Number: 3, Priority: 2}, {Number: 5, Priority: 0}, {Number: 7, Priority: 1}}}
	if got := probe.Order(m); !slices.Equal(got, []int{3, 0, 7}) {
		t.Errorf("%v", got)
	}
}

func TestExample4(t *testing.T) {
	m := still(512, 0)
	m.Shape = api.Shape{Unit: 512, Count: 200, Head: 16384, Keys: 8192}
	m.Slots = m.Slots[:1]
	m.Slots[0].Number = 0
	m.Tokens = nil
	m.Epochs[0].Number = 0
	m.Segments = []api.Segment{{Start: 0, Count: 120, Epoch: 0}}
	got, e := probe.Spots(m)
	expect(t, "Spots", e, api.OK)
	expect(t, "Spots", fmt.Sprint(got), "[{1 0 0 32} {2 0 32 32} {5 0 64 8} {3 0 72 8} {6 0 80 120}]")
}
