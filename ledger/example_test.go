package ledger_test

import (
	"slices"
	"strings"
	"testing"

	"coffer/api"
	"coffer/ledger"
)

// The chapter's examples, by their numbers.

// told gives the metadata that the examples are about: N is 120.
func told() api.Meta {
	return api.Meta{
		Shape:    api.Shape{Unit: 512, Count: 200, Head: 16384, Keys: 8192},
		Digest:   api.KeyDigest{Turns: 1, Salt: filled(32, 1), Digest: filled(32, 2)},
		Slots:    []api.Slot{{Hash: 256, Turns: 1, Salt: filled(32, 3), Cipher: "aes256-xts-plain64", Stripes: 2, Area: api.Area{Offset: 32768, Size: 4096}}},
		Epochs:   []api.Epoch{{Cipher: "aes128-ecb", Nonce: filled(32, 4), Sealed: filled(24, 5), Check: filled(32, 6)}},
		Segments: []api.Segment{{Count: 120}},
	}
}

func TestExample1(t *testing.T) {
	for stripes, want := range map[int]int64{1: 4096, 128: 4096, 129: 8192, 4000: 131072, 0: 0, 4001: 0} {
		if got := ledger.SlotSize(stripes); got != want {
			t.Errorf("SlotSize(%d): %d, not %d", stripes, got, want)
		}
	}
	for _, v := range []struct {
		mode int
		hot  uint64
		unit int
		want int64
	}{{api.ByJournal, 9, 512, 8192}, {api.ByDigests, 129, 512, 8192}, {api.ByDigests, 128, 4096, 4096}, {3, 1, 512, 0}} {
		if got := ledger.JournalSize(v.mode, v.hot, v.unit); got != v.want {
			t.Errorf("JournalSize(%d, %d, %d): %d, not %d", v.mode, v.hot, v.unit, got, v.want)
		}
	}
}

func TestExample2(t *testing.T) {
	if n, e := ledger.Sectors(api.Shape{Unit: 512, Count: 72, Head: 16384, Keys: 4096}); n != 0 || e != api.ErrLedgerShape {
		t.Errorf("72 sectors: %d, error %d", n, e)
	}
	if n, e := ledger.Sectors(api.Shape{Unit: 512, Count: 73, Head: 16384, Keys: 4096}); n != 1 || e != api.OK {
		t.Errorf("73 sectors: %d, error %d", n, e)
	}
}

func TestExample3(t *testing.T) {
	for _, v := range []struct {
		back bool
		done uint64
		want []api.Segment
	}{
		{false, 40, []api.Segment{{Start: 0, Count: 40, Epoch: 1}, {Start: 40, Count: 80, Epoch: 0}}},
		{true, 40, []api.Segment{{Start: 0, Count: 80, Epoch: 0}, {Start: 80, Count: 40, Epoch: 1}}},
		{false, 0, []api.Segment{{Start: 0, Count: 120, Epoch: 0}}},
		{true, 0, []api.Segment{{Start: 0, Count: 120, Epoch: 0}}},
		{false, 120, []api.Segment{{Start: 0, Count: 120, Epoch: 1}}},
		{true, 120, []api.Segment{{Start: 0, Count: 120, Epoch: 1}}},
	} {
		m := told()
		m.Rotation = api.Rotation{On: true, To: 1, Back: v.back, Done: v.done}
		if got := ledger.Segments(m); !slices.Equal(got, v.want) {
			t.Errorf("Back %v, Done %d: %v, not %v", v.back, v.done, got, v.want)
		}
	}
}

func TestExample4(t *testing.T) {
	m := told()
	m.Slots = append(m.Slots, m.Slots[0])
	m.Slots[1].Number, m.Slots[1].Area.Offset = 1, 36864
	if e := ledger.Check(m); e != api.OK {
		t.Errorf("without the rotation: error %d", e)
	}
	m.Epochs = append(m.Epochs, api.Epoch{Number: 1, Cipher: "null", Nonce: filled(32, 7), Check: filled(32, 8)})
	m.Rotation = api.Rotation{On: true, To: 1, Mode: api.ByDigests, Hot: 9, Area: api.Area{Offset: 40960, Size: 4096}}
	if e := ledger.Check(m); e != api.ErrLedgerArea {
		t.Errorf("with the rotation: error %d", e)
	}
	m.Slots = m.Slots[:1]
	m.Rotation.Area.Offset = 36864
	if e := ledger.Check(m); e != api.OK {
		t.Errorf("with the rotation where the second keyslot was: error %d", e)
	}
}

func TestExample5(t *testing.T) {
	s := printed(t, told())
	if !strings.HasPrefix(s, `{"config":{"unit":512,"count":200,"head":16384,"keys":8192},"digest":{"turns":`) || !strings.HasSuffix(s, `,"rotation":null,"tokens":{}}`) {
		t.Errorf("%s", s)
	}
}

func TestExample6(t *testing.T) {
	s := printed(t, told())
	for _, v := range []struct {
		in  string
		why api.Errno
		at  int
	}{
		{"{}", api.ErrLedgerText, 0},
		{"[1,]", api.ErrScrollByte, 3},
		{strings.Replace(s, `"keyslots":{"0":`, `"keyslots":{"00":`, 1), api.ErrLedgerText, 0},
	} {
		if m, e, at := ledger.Parse(v.in); e != v.why || at != v.at || !same(m, api.Meta{}) {
			t.Errorf("%.40s: error %d at %d, not %d at %d", v.in, e, at, v.why, v.at)
		}
	}
	if m, e, at := ledger.Parse(strings.Replace(s, `"unit":512`, `"unit":5.12e2`, 1)); e != api.OK || at != 0 || !same(m, told()) {
		t.Errorf("5.12e2: error %d at %d, %v", e, at, m)
	}
}
