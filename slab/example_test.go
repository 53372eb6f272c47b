package slab_test

import (
	"bytes"
	"math"
	"slices"
	"testing"

	"coffer/api"
	"coffer/slab"
)

// Example 1 of the chapter gives a slab, which example 2 goes on with.
func example1(t *testing.T) *slab.Slab {
	t.Helper()
	s := fresh(t, 512, 8)
	expect(t, "Write", s.Write(1, full(512, "AB")), api.OK)
	if !slices.Equal(s.Pending(), []uint64{1, 2}) || show(t, s) != ".AB..... ........" {
		t.Errorf("behind Write: pending %d, %s", s.Pending(), show(t, s))
	}
	expect(t, "Flush", s.Flush(), api.OK)
	if len(s.Pending()) != 0 || show(t, s) != ".AB..... .AB....." {
		t.Errorf("behind Flush: pending %d, %s", s.Pending(), show(t, s))
	}
	if s.Ops() != 2 || s.Counts() != (api.SlabCounts{Writes: 1, Flushes: 1, Stored: 2}) {
		t.Errorf("%d operations, %v", s.Ops(), s.Counts())
	}
	return s
}

func TestExample1(t *testing.T) { example1(t) }

func TestExample2(t *testing.T) {
	for _, c := range []struct {
		keep []bool
		want string
	}{{[]bool{true}, ".CB....."}, {[]bool{false, true}, ".DB....."}, {nil, ".AB....."}} {
		s := example1(t)
		expect(t, "Write", s.Write(1, full(512, "C")), api.OK)
		expect(t, "Write", s.Write(1, full(512, "D")), api.OK)
		expect(t, "Restart", s.Restart(c.keep...), api.OK)
		if got := show(t, s); got != c.want+" "+c.want {
			t.Errorf("Restart(%v): %s", c.keep, got)
		}
	}
}

func TestExample3(t *testing.T) {
	s := fresh(t, 512, 8, api.Glitch{Op: 2, Kind: api.GlitchPart, N: 1})
	expect(t, "Write", s.Write(0, full(512, "A")), api.OK)
	expect(t, "Write", s.Write(2, full(512, "BC")), api.ErrDevice)
	if got := show(t, s); got != "A.B..... ........" {
		t.Error(got)
	}
}

func TestExample4(t *testing.T) {
	s := fresh(t, 512, 8, api.Glitch{Op: 1, Kind: api.GlitchOff, N: 1})
	expect(t, "Write", s.Write(0, full(512, "AB")), api.ErrOff)
	expect(t, "Read", s.Read(0, make([]byte, 512)), api.ErrOff)
	if !slices.Equal(s.Pending(), []uint64{0}) || s.Ops() != 1 {
		t.Errorf("pending %d, %d operations", s.Pending(), s.Ops())
	}
	expect(t, "Restart", s.Restart(true), api.OK)
	if got := show(t, s); got != "A....... A......." {
		t.Error(got)
	}
}

func TestExample5(t *testing.T) {
	s := fresh(t, 512, 8, api.Glitch{Op: 3, Kind: api.GlitchTurn, At: 5, N: 9})
	want := make([]byte, 512)
	for i := range 4 {
		if i == 2 {
			want[1] = 2
		}
		into := full(512, "x")
		if e := s.Read(5, into); e != api.OK || !bytes.Equal(into, want) {
			t.Errorf("Read %d: error %d, %x", i+1, e, into[:4])
		}
	}
	if b, e := s.Rest(5); e != api.OK || !bytes.Equal(b, want) {
		t.Errorf("Rest: error %d, %x", e, b[:4])
	}
}

func TestExample6(t *testing.T) {
	s := fresh(t, 512, 8)
	expect(t, "Write of two sectors", s.Write(7, full(512, "AB")), api.ErrSector)
	expect(t, "Write of 511 bytes", s.Write(0, make([]byte, 511)), api.ErrShort)
	expect(t, "Read", s.Read(math.MaxUint64, make([]byte, 512)), api.ErrSector)
}
