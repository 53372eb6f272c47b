package rekey_test

import (
	"fmt"
	"slices"
	"testing"

	"coffer/api"
	"coffer/rekey"
)

// The chapter's examples, by their numbers.

func TestExample1(t *testing.T) {
	for _, v := range []struct {
		unit, mode int
		hot        uint64
		want       int64
		e          api.Errno
	}{
		{512, api.ByJournal, 2, 4096, api.OK},
		{512, api.ByDigests, 4096, 131072, api.OK},
		{512, api.ByJournal, 4096, 2097152, api.OK},
		{512, 3, 1, 0, api.ErrArg},
		{512, 1, 0, 0, api.ErrArg},
	} {
		got, e := rekey.Room(v.unit, v.mode, v.hot)
		expect(t, fmt.Sprint(v), got, v.want)
		expect(t, fmt.Sprint(v, ": error"), e, v.e)
	}
}

func TestExample2(t *testing.T) {
	for _, v := range []struct {
		back bool
		want [4][2]uint64
	}{
		{false, [4][2]uint64{{0, 2}, {2, 2}, {4, 1}, {5, 0}}},
		{true, [4][2]uint64{{3, 2}, {1, 2}, {0, 1}, {0, 0}}},
	} {
		c := cipher(t, "null", 0)
		m := begun(t, small(5), api.Turn{Mode: api.ByJournal, Hot: 2, Back: v.back})
		d := &tape{Slab: laid(t, m, c, c)}
		for i, want := range v.want {
			first, count, e := rekey.Next(m)
			expect(t, "Next", [2]uint64{first, count}, want)
			expect(t, "Next: error", e, api.OK)
			var over bool
			m, over, e = rekey.Step(d.work(c, c, 1), m)
			expect(t, "Step: over", over, i == 3)
			expect(t, "Step: error", e, api.OK)
		}
	}
}

func TestExample3(t *testing.T) {
	for _, v := range []struct {
		back bool
		done uint64
		want []api.Segment
	}{
		{false, 2, []api.Segment{{Start: 0, Count: 2, Epoch: 1}, {Start: 2, Count: 3, Epoch: 0}}},
		{true, 2, []api.Segment{{Start: 0, Count: 3, Epoch: 0}, {Start: 3, Count: 2, Epoch: 1}}},
		{false, 0, []api.Segment{{Start: 0, Count: 5, Epoch: 0}}},
		{false, 5, []api.Segment{{Start: 0, Count: 5, Epoch: 1}}},
	} {
		got, e := rekey.Segments(5, api.Rotation{On: true, To: 1, Back: v.back, Done: v.done})
		if e != api.OK || !slices.Equal(got, v.want) {
			t.Errorf("Back %v, Done %d: %v, error %d", v.back, v.done, got, e)
		}
	}
}

func TestExample4(t *testing.T) {
	c := cipher(t, "null", 0)
	m := begun(t, small(5), api.Turn{Mode: api.ByJournal, Hot: 2})
	d := &tape{Slab: laid(t, m, c, c)}
	w := d.work(c, c, 3)
	w.Commit = func(api.Meta) api.Errno { return api.OK }
	_, over, e := rekey.Step(w, m)
	expect(t, "error", e, api.OK)
	expect(t, "over", over, false)
	var got []string
	for _, v := range d.events {
		got = append(got, fmt.Sprint(v.what, " ", v.at, " ", len(v.data)/512))
	}
	if !slices.Equal(got, []string{"read 72 2", "write 64 2", "write 72 2", "flush 0 0"}) {
		t.Errorf("%v", got)
	}
}
