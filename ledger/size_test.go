package ledger_test

import (
	"math"
	"slices"
	"testing"

	"coffer/api"
	"coffer/ledger"
)

// P9.1: N of a shape that may be; 0 and an error of another, at and beyond each bound.
func TestSectors(t *testing.T) {
	for _, v := range []struct {
		s    api.Shape
		want uint64
		why  api.Errno
	}{
		{api.Shape{Unit: 512, Count: 400, Head: 16384, Keys: 65536}, 208, 0},
		{api.Shape{Unit: 512, Count: 73, Head: 16384, Keys: 4096}, 1, 0},
		{api.Shape{Unit: 512, Count: 72, Head: 16384, Keys: 4096}, 0, 90},
		{api.Shape{Unit: 4096, Count: 10, Head: 16384, Keys: 4096}, 1, 0},
		{api.Shape{Unit: 4096, Count: 9, Head: 16384, Keys: 4096}, 0, 90},
		{api.Shape{Unit: 1024, Count: 1 << 32, Head: 4194304, Keys: 1 << 27}, 1<<32 - 8192 - 131072, 0},
		{api.Shape{Unit: 4096, Count: 1 << 32, Head: 4194304, Keys: 1 << 27}, 1<<32 - 2048 - 32768, 0},
		{api.Shape{Unit: 4096, Count: 1<<32 + 1, Head: 4194304, Keys: 1 << 27}, 0, 90},
		{api.Shape{Unit: 4096, Count: math.MaxUint64, Head: 16384, Keys: 4096}, 0, 90},
		{api.Shape{Unit: 4096, Count: 1 << 52, Head: 16384, Keys: 4096}, 0, 90},
		{api.Shape{Unit: 512, Count: 400, Head: 16384, Keys: 0}, 0, 90},
		{api.Shape{Unit: 512, Count: 400, Head: 16384, Keys: -4096}, 0, 90},
		{api.Shape{Unit: 512, Count: 400, Head: 16384, Keys: 4097}, 0, 90},
		{api.Shape{Unit: 512, Count: 400, Head: 16384, Keys: 512}, 0, 90},
		{api.Shape{Unit: 512, Count: 1 << 30, Head: 16384, Keys: 1<<27 + 4096}, 0, 90},
		{api.Shape{Unit: 512, Count: 400, Head: 8192, Keys: 4096}, 0, 90},
		{api.Shape{Unit: 512, Count: 400, Head: 20480, Keys: 4096}, 0, 90},
		{api.Shape{Unit: 512, Count: 400, Head: 0, Keys: 4096}, 0, 90},
		{api.Shape{Unit: 512, Count: 400, Head: -16384, Keys: 4096}, 0, 90},
		{api.Shape{Unit: 512, Count: 400, Head: math.MinInt, Keys: 4096}, 0, 90},
		{api.Shape{Unit: 512, Count: 1 << 30, Head: 8388608, Keys: 4096}, 0, 90},
		{api.Shape{Unit: 0, Count: 400, Head: 16384, Keys: 4096}, 0, 90},
		{api.Shape{Unit: -512, Count: 400, Head: 16384, Keys: 4096}, 0, 90},
		{api.Shape{Unit: 256, Count: 400, Head: 16384, Keys: 4096}, 0, 90},
		{api.Shape{Unit: 8192, Count: 400, Head: 16384, Keys: 4096}, 0, 90},
		{api.Shape{}, 0, 90},
	} {
		if n, e := ledger.Sectors(v.s); n != v.want || e != v.why {
			t.Errorf("Sectors(%v): %d, error %d, not %d, error %d", v.s, n, e, v.want, v.why)
		}
	}
}

// P9.1: all shapes out of edges, against the words of 0.2.
func TestSectorsEdges(t *testing.T) {
	units := []int{-512, 0, 1, 511, 512, 513, 1024, 1536, 2048, 3072, 4096, 4097, 8192, math.MaxInt, math.MinInt}
	heads := []int{math.MinInt, -16384, 0, 8192, 16383, 16384, 16385, 24576, 32768, 1 << 21, 1<<22 - 1, 1 << 22, 1<<22 + 1, 1 << 23, math.MaxInt}
	keys := []int{math.MinInt, -4096, 0, 512, 4095, 4096, 4097, 6144, 8192, 1<<27 - 4096, 1 << 27, 1<<27 + 1, 1<<27 + 4096, math.MaxInt}
	for _, unit := range units {
		for _, head := range heads {
			for _, key := range keys {
				counts := []uint64{0, 1, 1<<32 - 1, 1 << 32, 1<<32 + 1, 1 << 52, 1<<52 + 9, 1 << 55, 1<<55 + 73, math.MaxUint64}
				if unit > 0 {
					full := uint64(2*head+key) / uint64(unit)
					counts = append(counts, full-1, full, full+1, full+2)
				}
				for _, count := range counts {
					s := api.Shape{Unit: unit, Count: count, Head: head, Keys: key}
					want, may := modelShape(s)
					why := api.OK
					if !may {
						want, why = 0, api.ErrLedgerShape
					}
					if n, e := ledger.Sectors(s); n != want || e != why {
						t.Fatalf("Sectors(%v): %d, error %d, not %d, error %d", s, n, e, want, why)
					}
				}
			}
		}
	}
}

// P9.2: the bytes of a keyslot's area, of all numbers of stripes and beyond.
func TestSlotSize(t *testing.T) {
	for stripes := -10; stripes < 5000; stripes++ {
		want := int64(0)
		if stripes >= 1 && stripes <= 4000 {
			for want < int64(stripes)*32 {
				want += 4096
			}
		}
		if got := ledger.SlotSize(stripes); got != want {
			t.Errorf("SlotSize(%d): %d, not %d", stripes, got, want)
		}
	}
	for _, stripes := range []int{math.MinInt, math.MaxInt, 1 << 32, 1<<32 + 1, 1 << 58, 1<<58 + 1} {
		if got := ledger.SlotSize(stripes); got != 0 {
			t.Errorf("SlotSize(%d): %d", stripes, got)
		}
	}
}

// P9.2: the bytes of a rotation's area, of all hotzones and beyond.
func TestJournalSize(t *testing.T) {
	hots := []uint64{math.MaxUint64, math.MaxInt64, 1 << 63, 1<<63 + 1, 1 << 32, 1 << 55, 1<<55 + 1}
	for hot := range uint64(4200) {
		hots = append(hots, hot)
	}
	for _, mode := range []int{math.MinInt, -1, 0, 1, 2, 3, 4, math.MaxInt} {
		for _, unit := range []int{math.MinInt, -512, 0, 1, 32, 256, 511, 512, 513, 1024, 1536, 2048, 4095, 4096, 8192, math.MaxInt} {
			for _, hot := range hots {
				want := int64(0)
				if mode >= 1 && mode <= 2 && hot >= 1 && hot <= 4096 && slices.Contains([]int{512, 1024, 2048, 4096}, unit) {
					each := int64(unit)
					if mode == 2 {
						each = 32
					}
					want = (int64(hot)*each + 4095) / 4096 * 4096
				}
				if got := ledger.JournalSize(mode, hot, unit); got != want {
					t.Fatalf("JournalSize(%d, %d, %d): %d, not %d", mode, hot, unit, got, want)
				}
			}
		}
	}
}

// P9.3: segments, without a rotation and with one, at and beyond its bounds.
func TestSegments(t *testing.T) {
	at := func(start, count, epoch uint64) api.Segment {
		return api.Segment{Start: start, Count: count, Epoch: epoch}
	}
	for _, v := range []struct {
		what   string
		change func(m *api.Meta)
		want   []api.Segment
	}{
		{"no rotation", func(m *api.Meta) { m.Rotation = api.Rotation{} }, []api.Segment{at(0, 208, 9)}},
		{"one epoch", func(m *api.Meta) { m.Rotation = api.Rotation{}; m.Epochs = m.Epochs[:1] }, []api.Segment{at(0, 208, 5)}},
		{"not On, though it has come far", func(m *api.Meta) { m.Rotation.On = false; m.Rotation.Done = 300 }, []api.Segment{at(0, 208, 9)}},
		{"the last is not the highest", func(m *api.Meta) { m.Rotation = api.Rotation{}; slices.Reverse(m.Epochs) }, []api.Segment{at(0, 208, 5)}},
		{"Done 0", func(m *api.Meta) { m.Rotation.Done = 0 }, []api.Segment{at(0, 208, 5)}},
		{"Done 1", func(m *api.Meta) { m.Rotation.Done = 1 }, []api.Segment{at(0, 1, 9), at(1, 207, 5)}},
		{"Done 207", func(m *api.Meta) { m.Rotation.Done = 207 }, []api.Segment{at(0, 207, 9), at(207, 1, 5)}},
		{"Done 208", func(m *api.Meta) { m.Rotation.Done = 208 }, []api.Segment{at(0, 208, 9)}},
		{"Done 209", func(m *api.Meta) { m.Rotation.Done = 209 }, nil},
		{"Done beyond", func(m *api.Meta) { m.Rotation.Done = math.MaxUint64 }, nil},
		{"Back, Done 0", func(m *api.Meta) { m.Rotation.Back = true; m.Rotation.Done = 0 }, []api.Segment{at(0, 208, 5)}},
		{"Back, Done 1", func(m *api.Meta) { m.Rotation.Back = true; m.Rotation.Done = 1 }, []api.Segment{at(0, 207, 5), at(207, 1, 9)}},
		{"Back, Done 208", func(m *api.Meta) { m.Rotation.Back = true; m.Rotation.Done = 208 }, []api.Segment{at(0, 208, 9)}},
		{"Back, Done 209", func(m *api.Meta) { m.Rotation.Back = true; m.Rotation.Done = 209 }, nil},
		{"a shape that may not be", func(m *api.Meta) { m.Shape.Count = 192 }, nil},
		{"no epoch", func(m *api.Meta) { m.Epochs = nil }, nil},
		{"an empty list of epochs", func(m *api.Meta) { m.Epochs = []api.Epoch{} }, nil},
		{"no epoch, not On", func(m *api.Meta) { m.Epochs = nil; m.Rotation = api.Rotation{} }, nil},
		{"From and To, whatever epochs there are", func(m *api.Meta) { m.Rotation.From = 77; m.Rotation.To = math.MaxUint64 }, []api.Segment{at(0, 40, math.MaxUint64), at(40, 168, 77)}},
		{"From is To", func(m *api.Meta) { m.Rotation.To = 5 }, []api.Segment{at(0, 40, 5), at(40, 168, 5)}},
		{"nothing else is asked", func(m *api.Meta) {
			m.Slots, m.Tokens, m.Segments, m.Digest = nil, nil, nil, api.KeyDigest{}
			m.Rotation.Hot, m.Rotation.Mode, m.Rotation.Active, m.Rotation.Sum = 0, 9, true, "x"
		}, []api.Segment{at(0, 40, 9), at(40, 168, 5)}},
	} {
		m := turning(false, 1, 40)
		v.change(&m)
		if got := ledger.Segments(m); !slices.Equal(got, v.want) {
			t.Errorf("%s: %v, not %v", v.what, got, v.want)
		}
	}
}
