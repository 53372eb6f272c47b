package slab_test

import (
	"bytes"
	"fmt"
	"math"
	"slices"
	"testing"

	"coffer/api"
	"coffer/slab"
)

// outcome is what an operation did to a slab of four sectors, "AB.." of which "A..." is durable.
type outcome struct {
	answer  api.Errno
	lit     bool
	pending []uint64
	shown   string
	counts  api.SlabCounts // without what came ahead of it
}

// prepared gives a slab that three operations have passed, so that a plan's glitches of Op 4 are next.
func prepared(t *testing.T, unit int, plan ...api.Glitch) *slab.Slab {
	t.Helper()
	s := fresh(t, unit, 4, plan...)
	expect(t, "Write", s.Write(0, full(unit, "A")), api.OK)
	expect(t, "Flush", s.Flush(), api.OK)
	expect(t, "Write", s.Write(1, full(unit, "B")), api.OK)
	return s
}

// perform does one operation: a read of three sectors from 0 on, a write of three ones from 1 on, or a flush.
func perform(t *testing.T, s *slab.Slab, which string) outcome {
	t.Helper()
	before := s.Counts()
	into := full(s.Unit(), "xxx")
	var e api.Errno
	switch which {
	case "read":
		e = s.Read(0, into)
		want := full(s.Unit(), "AB\x00")
		if e != api.OK {
			want = full(s.Unit(), "xxx")
		}
		if !bytes.Equal(into, want) {
			t.Errorf("a read that answered %d: other bytes", e)
		}
	case "write":
		e = s.Write(1, full(s.Unit(), "CDE"))
	case "flush":
		e = s.Flush()
	}
	c := s.Counts()
	c.Reads -= before.Reads
	c.Writes -= before.Writes
	c.Flushes -= before.Flushes
	c.Fetched -= before.Fetched
	c.Stored -= before.Stored
	return outcome{e, s.Lit(), s.Pending(), show(t, s), c}
}

func checkOutcome(t *testing.T, name string, got, want outcome) {
	t.Helper()
	if got.answer != want.answer || got.lit != want.lit || !slices.Equal(got.pending, want.pending) || got.shown != want.shown || got.counts != want.counts {
		t.Errorf("%s: %v, not %v", name, got, want)
	}
}

// undisturbed tells what the operation does if nothing is met.
func undisturbed(which string) outcome {
	switch which {
	case "read":
		return outcome{api.OK, true, []uint64{1}, "AB.. A...", api.SlabCounts{Reads: 1, Fetched: 3}}
	case "write":
		return outcome{api.OK, true, []uint64{1, 1, 2, 3}, "ACDE A...", api.SlabCounts{Writes: 1, Stored: 3}}
	}
	return outcome{api.OK, true, nil, "AB.. AB..", api.SlabCounts{Flushes: 1}}
}

// stopped tells what it does if it meets ErrDevice or ErrOff, with so many sectors of a write written.
func stopped(which string, e api.Errno, n int) outcome {
	o := outcome{e, e != api.ErrOff, []uint64{1}, "AB.. A...", api.SlabCounts{}}
	switch which {
	case "read":
		o.counts.Reads = 1
	case "write":
		o.counts.Writes = 1
		o.counts.Stored = int64(n)
		o.pending = []uint64{1, 1, 2, 3}[:1+n]
		o.shown = []string{"AB..", "AC..", "ACD.", "ACDE"}[n] + " A..."
	case "flush":
		o.counts.Flushes = 1
	}
	return o
}

// due tells what an operation does that has one glitch.
func due(which string, g api.Glitch) outcome {
	some := min(g.N, 3)
	switch {
	case which == "read" && g.Kind == api.GlitchRead, which == "flush" && g.Kind == api.GlitchFlush, which == "write" && g.Kind == api.GlitchWrite:
		return stopped(which, api.ErrDevice, 0)
	case which == "write" && g.Kind == api.GlitchPart:
		return stopped(which, api.ErrDevice, some)
	case g.Kind == api.GlitchOff:
		return stopped(which, api.ErrOff, some)
	}
	return undisturbed(which)
}

// P5.2, P5.3, P5.4: each kind ahead of each operation that can have it and that cannot, with an N of 0, of some, of all and of more; behind it the power is as it must be, and the next operation is as ever.
func TestEachGlitch(t *testing.T) {
	for _, unit := range units {
		for kind := api.GlitchRead; kind <= api.GlitchOff; kind++ {
			for _, n := range []int{0, 1, 2, 3, 4, 8192, math.MaxInt} {
				for _, which := range []string{"read", "write", "flush"} {
					g := api.Glitch{Op: 4, Kind: kind, N: n, At: 77}
					s := prepared(t, unit, g)
					name := fmt.Sprintf("unit %d, a %s, %v", unit, which, g)
					checkOutcome(t, name, perform(t, s, which), due(which, g))
					if s.Ops() != 4 {
						t.Errorf("%s: %d operations", name, s.Ops())
					}
					s.Restart()
					expect(t, name+": the next one", s.Write(0, full(unit, "Z")), api.OK)
				}
			}
		}
	}
}

// P5.2, P5.3, P5.4: glitches of operations ahead of it and behind it are not met.
func TestOtherNumbers(t *testing.T) {
	for kind := api.GlitchRead; kind <= api.GlitchTurn; kind++ {
		for _, which := range []string{"read", "write", "flush"} {
			s := prepared(t, 512, api.Glitch{Op: 5, Kind: kind}, api.Glitch{Op: math.MaxInt64, Kind: kind}, api.Glitch{Op: 40, Kind: kind})
			checkOutcome(t, which, perform(t, s, which), undisturbed(which))
		}
	}
}

// Of several glitches of one Op, the first one that the operation can have is met; all others do nothing, then and later.
func TestSeveralGlitches(t *testing.T) {
	every := []api.Glitch{{Op: 4, Kind: 1}, {Op: 4, Kind: 2, N: 3}, {Op: 4, Kind: 3, N: 1}, {Op: 4, Kind: 3, N: 2}, {Op: 4, Kind: 4}, {Op: 4, Kind: 5, N: 2}, {Op: 4, Kind: 5}}
	can := map[string][]int{"read": {1, 5}, "write": {2, 3, 5}, "flush": {4, 5}}
	for _, a := range every {
		for _, b := range every {
			for _, c := range every {
				for which, kinds := range can {
					plan := []api.Glitch{{Op: 9, Kind: 1}, a, b, c}
					want := undisturbed(which)
					for _, g := range plan[1:] {
						if slices.Contains(kinds, g.Kind) {
							want = due(which, g)
							break
						}
					}
					s := prepared(t, 512, plan...)
					checkOutcome(t, fmt.Sprintf("a %s, %v", which, plan), perform(t, s, which), want)
					s.Restart()
					expect(t, "a read behind it", s.Read(0, make([]byte, 512)), api.OK)
					expect(t, "a write behind it", s.Write(0, make([]byte, 512)), api.OK)
					expect(t, "a flush behind it", s.Flush(), api.OK)
				}
			}
		}
	}
}

// turned gives a sector with some bits turned.
func turned(b []byte, bits ...int) []byte {
	b = bytes.Clone(b)
	for _, n := range bits {
		b[n/8] ^= 1 << (n % 8)
	}
	return b
}

func checkRest(t *testing.T, name string, s *slab.Slab, at uint64, want []byte) {
	t.Helper()
	if b, e := s.Rest(at); e != api.OK || !bytes.Equal(b, want) {
		t.Errorf("%s: sector %d on the medium: error %d, or other bytes", name, at, e)
	}
}

// Bits are turned on the medium ahead of any operation, whatever else stands ahead of it and wherever in the plan, also of one that then fails; each as often as it is named.
func TestTurn(t *testing.T) {
	others := [][]api.Glitch{nil, {{Op: 4, Kind: 1}}, {{Op: 4, Kind: 2}}, {{Op: 4, Kind: 3, N: 1}}, {{Op: 4, Kind: 4}}, {{Op: 4, Kind: 5, N: 1}}}
	for _, unit := range units {
		for _, other := range others {
			for _, which := range []string{"read", "write", "flush"} {
				plan := []api.Glitch{{Op: 4, Kind: 6, At: 3, N: 0}, {Op: 4, Kind: 6, At: 3, N: 8*unit - 1}}
				plan = append(plan, other...)
				plan = append(plan, api.Glitch{Op: 4, Kind: 6, At: 3, N: 9}, api.Glitch{Op: 4, Kind: 6, At: 2, N: 5}, api.Glitch{Op: 4, Kind: 6, At: 2, N: 5}, api.Glitch{Op: 4, Kind: 6, At: 0, N: 17})
				s := fresh(t, unit, 5, plan...)
				s.Write(0, full(unit, "A"))
				s.Flush()
				s.Write(1, full(unit, "B"))
				turn(t, s, which, other)
				name := fmt.Sprintf("unit %d, a %s, %v", unit, which, plan)
				zero := make([]byte, unit)
				checkRest(t, name, s, 3, turned(zero, 0, 8*unit-1, 9))
				checkRest(t, name, s, 2, zero)
				checkRest(t, name, s, 0, turned(full(unit, "A"), 17))
				checkRest(t, name, s, 4, zero)
			}
		}
	}
}

// turn does an operation that writes nothing to the sectors whose bits are turned, and looks at its answer.
func turn(t *testing.T, s *slab.Slab, which string, other []api.Glitch) {
	t.Helper()
	unit := s.Unit()
	want := api.OK
	if len(other) == 1 {
		want = due(which, other[0]).answer
	}
	switch which {
	case "read":
		into := full(unit, "xx")
		e := s.Read(2, into)
		expect(t, "read", e, want)
		held := append(make([]byte, unit), turned(make([]byte, unit), 0, 8*unit-1, 9)...)
		if e == api.OK && !bytes.Equal(into, held) {
			t.Errorf("unit %d: the read does not see the bits that were turned ahead of it", unit)
		}
	case "write":
		expect(t, "write", s.Write(1, full(unit, "C")), want)
	case "flush":
		expect(t, "flush", s.Flush(), want)
	}
}

// A bit is turned on the medium alone: a write in the log lies over it, and a flush of that operation, or a later one, lays the write there whole.
func TestTurnUnderTheLog(t *testing.T) {
	for _, unit := range units {
		turns := []api.Glitch{{Op: 3, Kind: 6, At: 1, N: 4}, {Op: 4, Kind: 6, At: 1, N: 4}, {Op: 4, Kind: 6, At: 0, N: 3}}
		s := fresh(t, unit, 2, turns...)
		s.Write(0, full(unit, "A"))
		s.Write(1, full(unit, "B"))
		into := full(unit, "x")
		expect(t, "Read", s.Read(1, into), api.OK)
		if !bytes.Equal(into, full(unit, "B")) {
			t.Errorf("unit %d: a turned bit is seen through the log", unit)
		}
		checkRest(t, "under the log", s, 1, turned(make([]byte, unit), 4))
		lost := s.Copy()
		lost.Restart(true)
		checkRest(t, "behind a restart", lost, 1, turned(make([]byte, unit), 4))
		expect(t, "Flush", s.Flush(), api.OK)
		if got := show(t, s); got != "AB AB" {
			t.Errorf("unit %d: behind a flush: %s", unit, got)
		}
	}
}

// A bit that is turned twice, by one operation or by two, is what it was; zeros are zeros again.
func TestTurnedBack(t *testing.T) {
	for _, unit := range units {
		s := fresh(t, unit, 3, api.Glitch{Op: 1, Kind: 6, At: 2, N: 100}, api.Glitch{Op: 2, Kind: 6, At: 2, N: 100}, api.Glitch{Op: 3, Kind: 6, N: 1}, api.Glitch{Op: 3, Kind: 6, N: 1})
		for i, want := range [][]uint64{{2}, nil, nil, nil} {
			expect(t, "Flush", s.Flush(), api.OK)
			if u := s.Used(); !slices.Equal(u, want) {
				t.Errorf("unit %d: behind operation %d: used %d", unit, i+1, u)
			}
		}
	}
}

// Every bit of a sector has its own place.
func TestTurnEveryBit(t *testing.T) {
	for _, unit := range units {
		for from := 0; from < 8*unit; from += 1024 {
			var plan []api.Glitch
			for n := range 1024 {
				plan = append(plan, api.Glitch{Op: int64(n + 1), Kind: 6, At: 1, N: from + n})
			}
			s := fresh(t, unit, 2, plan...)
			want := make([]byte, unit)
			for n := from; n < from+1024; n++ {
				s.Flush()
				want[n/8] |= 1 << (n % 8)
				if b, _ := s.Peek(1); !bytes.Equal(b, want) {
					t.Fatalf("unit %d: bit %d", unit, n)
				}
			}
		}
	}
}

// Calls that are refused, and hands, have no number: the plan's glitch waits. Numbers go on across losses of power.
func TestNumbersGoOn(t *testing.T) {
	for _, unit := range units {
		s := fresh(t, unit, 2, api.Glitch{Op: 3, Kind: api.GlitchOff}, api.Glitch{Op: 5, Kind: api.GlitchWrite}, api.Glitch{Op: 6, Kind: api.GlitchRead})
		one := full(unit, "A")
		idle := func() {
			ops := s.Ops()
			s.Read(2, one)
			s.Write(0, one[1:])
			s.Write(1, nil)
			s.Write(0, make([]byte, 8193*unit))
			s.Peek(0)
			s.Rest(5)
			s.Poke(1, full(unit, "P"))
			s.Restart()
			s.Off()
			s.Flush()
			s.Read(0, one)
			s.Write(0, one)
			s.Restart()
			s.Copy().Flush()
			if s.Ops() != ops {
				t.Errorf("unit %d: calls that are no operations are counted: %d, not %d", unit, s.Ops(), ops)
			}
		}
		idle()
		expect(t, "1", s.Write(0, one), api.OK)
		idle()
		expect(t, "2", s.Flush(), api.OK)
		idle()
		expect(t, "3", s.Write(0, one), api.ErrOff)
		if s.Lit() {
			t.Errorf("unit %d: power behind GlitchOff", unit)
		}
		idle()
		expect(t, "4", s.Write(0, one), api.OK)
		s.Off()
		s.Restart(true)
		expect(t, "5", s.Write(0, one), api.ErrDevice)
		idle()
		expect(t, "6", s.Read(0, one), api.ErrDevice)
		expect(t, "7", s.Read(0, one), api.OK)
		if s.Ops() != 7 || s.Counts() != (api.SlabCounts{Reads: 2, Writes: 4, Flushes: 1, Fetched: 1, Stored: 2}) {
			t.Errorf("unit %d: %d operations, %v", unit, s.Ops(), s.Counts())
		}
	}
}

// P5.6: glitched operations are counted, their sectors only as far as they were written.
func TestCountsOfGlitched(t *testing.T) {
	plan := []api.Glitch{{Op: 1, Kind: 1}, {Op: 2, Kind: 5}, {Op: 3, Kind: 2, N: 2}, {Op: 4, Kind: 3, N: 2}, {Op: 5, Kind: 5, N: 1}, {Op: 6, Kind: 4}, {Op: 7, Kind: 5, N: 9}, {Op: 8, Kind: 3, N: 9}}
	s := fresh(t, 512, 9, plan...)
	three := full(512, "ABC")
	for i, c := range []struct {
		call func() api.Errno
		e    api.Errno
		want api.SlabCounts
	}{
		{func() api.Errno { return s.Read(0, three) }, api.ErrDevice, api.SlabCounts{Reads: 1}},
		{func() api.Errno { return s.Read(0, three) }, api.ErrOff, api.SlabCounts{Reads: 2}},
		{func() api.Errno { return s.Write(0, three) }, api.ErrDevice, api.SlabCounts{Reads: 2, Writes: 1}},
		{func() api.Errno { return s.Write(0, three) }, api.ErrDevice, api.SlabCounts{Reads: 2, Writes: 2, Stored: 2}},
		{func() api.Errno { return s.Write(0, three) }, api.ErrOff, api.SlabCounts{Reads: 2, Writes: 3, Stored: 3}},
		{s.Flush, api.ErrDevice, api.SlabCounts{Reads: 2, Writes: 3, Flushes: 1, Stored: 3}},
		{s.Flush, api.ErrOff, api.SlabCounts{Reads: 2, Writes: 3, Flushes: 2, Stored: 3}},
		{func() api.Errno { return s.Write(5, three) }, api.ErrDevice, api.SlabCounts{Reads: 2, Writes: 4, Flushes: 2, Stored: 6}},
		{func() api.Errno { return s.Read(6, three) }, api.OK, api.SlabCounts{Reads: 3, Writes: 4, Flushes: 2, Fetched: 3, Stored: 6}},
	} {
		if e := c.call(); e != c.e || s.Counts() != c.want || s.Ops() != int64(i+1) {
			t.Errorf("operation %d: error %d, %v, %d operations; not %d, %v", i+1, e, s.Counts(), s.Ops(), c.e, c.want)
		}
		if !s.Lit() {
			s.Restart()
		}
	}
}

// P5.4: a flush that fails leaves the log as it was; the next one lays it over the medium.
func TestFlushFails(t *testing.T) {
	for _, unit := range units {
		s := fresh(t, unit, 3, api.Glitch{Op: 3, Kind: api.GlitchFlush}, api.Glitch{Op: 4, Kind: api.GlitchOff, N: 1})
		s.Write(0, full(unit, "AB"))
		s.Write(1, full(unit, "C"))
		expect(t, "Flush", s.Flush(), api.ErrDevice)
		if got := show(t, s); got != "AC. ..." || !slices.Equal(s.Pending(), []uint64{0, 1, 1}) || !s.Lit() {
			t.Errorf("unit %d: %s, %d", unit, got, s.Pending())
		}
		off := s.Copy()
		expect(t, "Flush", off.Flush(), api.ErrOff)
		if got := show(t, off); got != "AC. ..." || !slices.Equal(off.Pending(), []uint64{0, 1, 1}) || off.Lit() {
			t.Errorf("unit %d: %s, %d", unit, got, off.Pending())
		}
		off.Restart(true, true)
		if got := show(t, off); got != "AB. AB." {
			t.Errorf("unit %d: restarted: %s", unit, got)
		}
		expect(t, "Read", s.Read(2, make([]byte, unit)), api.ErrOff)
		s.Restart(false, false, true)
		s.Write(2, full(unit, "D"))
		expect(t, "Flush", s.Flush(), api.OK)
		if got := show(t, s); got != ".CD .CD" {
			t.Errorf("unit %d: flushed: %s", unit, got)
		}
	}
}
