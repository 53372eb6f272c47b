package slab

import (
	"bytes"
	"testing"

	"coffer/api"
)

// What was wiped needs no memory: zeros have no place on the medium or in the log's data, however they came there.
func TestZerosNeedNoRoom(t *testing.T) {
	for _, unit := range []int{512, 1024, 2048, 4096} {
		s, _ := New(unit, 10, api.Glitch{Op: 5, Kind: api.GlitchTurn, At: 8}, api.Glitch{Op: 6, Kind: api.GlitchTurn, At: 8})
		some, zeros := bytes.Repeat([]byte{1}, 3*unit), make([]byte, 3*unit)
		s.Write(0, some)
		s.Write(3, zeros)
		if len(s.medium) != 0 || len(s.log.data) != 3 || len(s.log.sectors) != 6 || len(s.log.last) != 6 {
			t.Errorf("unit %d: written: %d, %d", unit, len(s.medium), len(s.log.data))
		}
		s.Flush()
		if len(s.medium) != 3 || len(s.log.data) != 0 || len(s.log.last) != 0 {
			t.Errorf("unit %d: flushed: %d, %d", unit, len(s.medium), len(s.log.data))
		}
		s.Write(0, zeros)
		s.Restart(true, false, true)
		if len(s.medium) != 1 || len(s.log.data) != 0 {
			t.Errorf("unit %d: restarted: %d, %d", unit, len(s.medium), len(s.log.data))
		}
		s.Poke(1, zeros[:unit])
		s.Flush()
		if len(s.medium) != 1 {
			t.Errorf("unit %d: a turned bit: %d", unit, len(s.medium))
		}
		s.Flush()
		if len(s.medium) != 0 {
			t.Errorf("unit %d: turned back: %d", unit, len(s.medium))
		}
	}
}

// What was planned of an operation that has been is kept no longer; a copy has its own lists.
func TestPlanIsForgotten(t *testing.T) {
	s, _ := New(512, 1, api.Glitch{Op: 1, Kind: api.GlitchFlush}, api.Glitch{Op: 2, Kind: api.GlitchRead}, api.Glitch{Op: 2, Kind: api.GlitchOff}, api.Glitch{Op: 9, Kind: api.GlitchOff})
	if len(s.plan) != 3 || len(s.plan[2]) != 2 {
		t.Fatalf("%d operations are planned", len(s.plan))
	}
	c := s.Copy()
	c.plan[2][0] = nil
	if s.plan[2][0] == nil {
		t.Errorf("a copy shares its plan's lists")
	}
	s.Flush()
	s.Write(0, make([]byte, 512))
	if len(s.plan) != 1 || len(c.plan) != 3 {
		t.Errorf("%d and %d operations are planned", len(s.plan), len(c.plan))
	}
}

// The part of a sector ends where the unit does: nobody gets at what lies behind it.
func TestCut(t *testing.T) {
	for _, unit := range []int{512, 1024, 2048, 4096} {
		c := sectorOf(bytes.Repeat([]byte{9}, unit))
		b := c.cut(unit)
		if len(b) != unit || cap(b) != unit || bytes.Count(b, []byte{9}) != unit || bytes.Count(c[:], []byte{9}) != unit {
			t.Errorf("unit %d: %d bytes, room for %d", unit, len(b), cap(b))
		}
	}
}
