package slab_test

import (
	"bytes"
	"fmt"
	"go/parser"
	"go/token"
	"math"
	"path/filepath"
	"slices"
	"strconv"
	"strings"
	"testing"

	"coffer/api"
	"coffer/slab"
)

// Layers above take a slab as a device.
var _ api.Device = (*slab.Slab)(nil)

// P5.1: units and counts, each of which may be or not.
func TestNew(t *testing.T) {
	for _, unit := range []int{math.MinInt, -512, -1, 0, 1, 256, 511, 512, 513, 1023, 1024, 1025, 1536, 2047, 2048, 2049, 3072, 4095, 4096, 4097, 8192, math.MaxInt} {
		for _, count := range []uint64{0, 1, 2, 1000, api.MaxSectors - 1, api.MaxSectors, api.MaxSectors + 1, 1 << 63, math.MaxUint64} {
			s, e := slab.New(unit, count)
			if !slices.Contains(units, unit) || count == 0 || count > 1<<32 {
				if s != nil || e != api.ErrArg {
					t.Errorf("New(%d, %d): %v, error %d", unit, count, s, e)
				}
				continue
			}
			if s == nil || e != api.OK || s.Unit() != unit || s.Count() != count {
				t.Errorf("New(%d, %d): error %d, unit %d, count %d", unit, count, e, s.Unit(), s.Count())
			}
		}
	}
}

// P5.1: in the beginning all is zeros, the log is empty, and there is power.
func TestBeginning(t *testing.T) {
	for _, unit := range units {
		s := fresh(t, unit, 5)
		newModel(unit, 5).check(t, "a new one", s)
		into := full(unit, "xy")
		if e := s.Read(3, into); e != api.OK || !bytes.Equal(into, make([]byte, 2*unit)) {
			t.Errorf("unit %d: a new one's sectors: error %d", unit, e)
		}
	}
}

// glitches gives n of them that may be.
func glitches(n int) []api.Glitch {
	out := make([]api.Glitch, n)
	for i := range out {
		out[i] = api.Glitch{Op: int64(i + 1), Kind: i%5 + 1}
	}
	return out
}

// P5.1: a glitch that may not be, alone, the last one of many, or the first one.
func TestNewPlan(t *testing.T) {
	const top = math.MaxInt64
	for _, c := range []struct {
		name string
		g    api.Glitch
		may  bool
	}{
		{"all zeros", api.Glitch{}, false},
		{"Op 0", api.Glitch{Op: 0, Kind: 1}, false},
		{"Op -1", api.Glitch{Op: -1, Kind: 1}, false},
		{"the least Op", api.Glitch{Op: math.MinInt64, Kind: 6}, false},
		{"Op 1", api.Glitch{Op: 1, Kind: 1}, true},
		{"the greatest Op", api.Glitch{Op: top, Kind: 1}, true},
		{"kind 0", api.Glitch{Op: 1, Kind: 0}, false},
		{"kind -1", api.Glitch{Op: 1, Kind: -1}, false},
		{"the least kind", api.Glitch{Op: 1, Kind: math.MinInt}, false},
		{"kind 7", api.Glitch{Op: 1, Kind: 7}, false},
		{"the greatest kind", api.Glitch{Op: 1, Kind: math.MaxInt}, false},
		{"a bit of the first sector", api.Glitch{Op: 1, Kind: 6}, true},
		{"a bit of the last sector", api.Glitch{Op: 1, Kind: 6, At: 2}, true},
		{"a bit of no sector", api.Glitch{Op: 1, Kind: 6, At: 3}, false},
		{"a bit of the last sector of all numbers", api.Glitch{Op: 1, Kind: 6, At: math.MaxUint64}, false},
		{"the last bit but one", api.Glitch{Op: 1, Kind: 6, N: 8190}, true},
		{"the last bit", api.Glitch{Op: 1, Kind: 6, N: 8191}, true},
		{"one bit beyond", api.Glitch{Op: 1, Kind: 6, N: 8192}, false},
		{"the last bit of the greatest number", api.Glitch{Op: 1, Kind: 6, N: math.MaxInt}, false},
		{"a bit below 0", api.Glitch{Op: 1, Kind: 6, N: -1}, false},
	} {
		checkGlitch(t, c.name, c.g, c.may)
	}
	for kind := 1; kind <= 5; kind++ {
		checkGlitch(t, "an N below 0", api.Glitch{Op: 1, Kind: kind, N: -1}, false)
		checkGlitch(t, "the least N", api.Glitch{Op: 1, Kind: kind, N: math.MinInt}, false)
		checkGlitch(t, "the greatest N and At", api.Glitch{Op: 1, Kind: kind, N: math.MaxInt, At: math.MaxUint64}, true)
		checkGlitch(t, "an N beyond the bits", api.Glitch{Op: 1, Kind: kind, N: 8192, At: 3}, true)
	}
}

func checkGlitch(t *testing.T, name string, g api.Glitch, may bool) {
	t.Helper()
	want := api.ErrPlan
	if may {
		want = api.OK
	}
	for _, plan := range [][]api.Glitch{{g}, append(glitches(20), g), append([]api.Glitch{g}, glitches(20)...)} {
		if s, e := slab.New(1024, 3, plan...); e != want || (s != nil) != may {
			t.Errorf("%s, %d glitches: error %d, not %d", name, len(plan), e, want)
		}
		if s, e := slab.New(1023, 3, plan...); e != api.ErrArg || s != nil {
			t.Errorf("%s, a wrong unit: error %d", name, e)
		}
		if s, e := slab.New(1024, 0, plan...); e != api.ErrArg || s != nil {
			t.Errorf("%s, a wrong count: error %d", name, e)
		}
	}
}

// P5.1: a bit that may be turned hangs on the unit.
func TestLastBit(t *testing.T) {
	for _, unit := range units {
		s, e := slab.New(unit, 1<<32, api.Glitch{Op: 1, Kind: api.GlitchTurn, At: 1<<32 - 1, N: 8*unit - 1})
		if e != api.OK {
			t.Fatalf("unit %d: error %d", unit, e)
		}
		s.Flush()
		b, e := s.Rest(1<<32 - 1)
		if want := append(make([]byte, unit-1), 0x80); e != api.OK || !bytes.Equal(b, want) {
			t.Errorf("unit %d: error %d, or another bit is turned", unit, e)
		}
		if s, e := slab.New(unit, 1<<32, api.Glitch{Op: 1, Kind: api.GlitchTurn, N: 8 * unit}); s != nil || e != api.ErrPlan {
			t.Errorf("unit %d: one bit beyond: error %d", unit, e)
		}
	}
}

// P5.1: so many glitches, and one more.
func TestMaxGlitches(t *testing.T) {
	if s, e := slab.New(512, 1, glitches(1024)...); s == nil || e != api.OK {
		t.Errorf("1024 glitches: error %d", e)
	}
	if s, e := slab.New(512, 1, glitches(1025)...); s != nil || e != api.ErrPlan {
		t.Errorf("1025 glitches: error %d", e)
	}
	if s, e := slab.New(512, 1<<32+1, glitches(1025)...); s != nil || e != api.ErrArg {
		t.Errorf("1025 glitches, and a wrong count: error %d", e)
	}
	same := slices.Repeat([]api.Glitch{{Op: 2, Kind: api.GlitchTurn, N: 3}}, 1023)
	s := fresh(t, 512, 1, append(same, api.Glitch{Op: 2, Kind: api.GlitchFlush})...)
	expect(t, "the first flush", s.Flush(), api.OK)
	expect(t, "a flush with 1024 glitches", s.Flush(), api.ErrDevice)
	if b, _ := s.Rest(0); b[0] != 8 {
		t.Errorf("a bit that is turned 1023 times: %d", b[0])
	}
}

// P5.2, P5.3: what is refused, and for what, where several errors hold at once; a call that is refused is no operation.
func TestRefused(t *testing.T) {
	for _, unit := range units {
		for _, count := range []uint64{1, 8, 8191, 8192, 8193, 20000} {
			s, m := fresh(t, unit, count), newModel(unit, count)
			room := bytes.Repeat([]byte{7}, unit*8194+1)
			for _, at := range []uint64{0, 1, 7, 8, 9, count - 1, count, count + 1, 1 << 32, 1 << 63, math.MaxUint64 - 8192, math.MaxUint64 - 1, math.MaxUint64} {
				for _, n := range []int{0, 1, unit - 1, unit + 1, unit, 2 * unit, 8*unit - 1, 8 * unit, 9 * unit, 8192*unit + 1, 8193 * unit, 8193*unit + 1} {
					checkRefused(t, s, m, at, room[:n])
				}
			}
		}
	}
}

func checkRefused(t *testing.T, s *slab.Slab, m *model, at uint64, b []byte) {
	t.Helper()
	want := m.refused(at, len(b))
	if want == api.OK {
		return
	}
	e := s.Read(at, b)
	ends := append(bytes.Clone(b[:min(len(b), m.unit)]), b[max(0, len(b)-m.unit):]...)
	if e != want || bytes.Count(ends, []byte{7}) != len(ends) {
		t.Errorf("unit %d, count %d: Read(%d, %d bytes): error %d, not %d", m.unit, len(m.disk), at, len(b), e, want)
	}
	if e := s.Write(at, b); e != want {
		t.Errorf("unit %d, count %d: Write(%d, %d bytes): error %d, not %d", m.unit, len(m.disk), at, len(b), e, want)
	}
	if s.Ops() != 0 || s.Counts() != (api.SlabCounts{}) || len(s.Pending()) != 0 || len(s.Used()) != 0 {
		t.Fatalf("unit %d, count %d: Read or Write(%d, %d bytes), refused, did something", m.unit, len(m.disk), at, len(b))
	}
}

// P5.2, P5.3: MaxSpan sectors, that end at Count, at places that are far apart.
func TestMaxSpan(t *testing.T) {
	for _, unit := range units {
		for _, count := range []uint64{8192, 8200, 1 << 32} {
			s := fresh(t, unit, count)
			data := make([]byte, 8192*unit)
			for i := range data {
				data[i] = byte(i/unit + i*5 + 1)
			}
			at := count - 8192
			expect(t, "Write of 8192 sectors", s.Write(at, data), api.OK)
			into := make([]byte, len(data))
			expect(t, "Read of 8192 sectors", s.Read(at, into), api.OK)
			if !bytes.Equal(into, data) {
				t.Errorf("unit %d, count %d: other bytes", unit, count)
			}
			expect(t, "Write beyond Count", s.Write(at+1, data), api.ErrSector)
			expect(t, "Read beyond Count", s.Read(at+1, into), api.ErrSector)
			expect(t, "Flush", s.Flush(), api.OK)
			if u := s.Used(); len(u) != 8192 || u[0] != at || u[8191] != count-1 || !slices.IsSorted(u) {
				t.Errorf("unit %d, count %d: %d sectors are used", unit, count, len(u))
			}
			if s.Counts() != (api.SlabCounts{Reads: 1, Writes: 1, Flushes: 1, Fetched: 8192, Stored: 8192}) || s.Ops() != 3 {
				t.Errorf("unit %d, count %d: %v", unit, count, s.Counts())
			}
		}
	}
}

// P5.2, P5.3, P5.4: without power every call answers ErrOff ahead of all else, and does nothing.
func TestWithoutPower(t *testing.T) {
	for _, unit := range units {
		s := fresh(t, unit, 4)
		expect(t, "Write", s.Write(1, full(unit, "A")), api.OK)
		expect(t, "Off", s.Off(), api.OK)
		for _, n := range []int{0, 1, unit, 5 * unit, 8193 * unit} {
			for _, at := range []uint64{0, 4, math.MaxUint64} {
				b := bytes.Repeat([]byte{7}, n)
				expect(t, "Read without power", s.Read(at, b), api.ErrOff)
				expect(t, "Write without power", s.Write(at, b), api.ErrOff)
				if bytes.Count(b, []byte{7}) != n {
					t.Errorf("what is read without power is changed")
				}
			}
		}
		expect(t, "Flush without power", s.Flush(), api.ErrOff)
		expect(t, "Off once more", s.Off(), api.OK)
		if got := show(t, s); got != ".A.. ...." || s.Lit() || s.Ops() != 1 || !slices.Equal(s.Pending(), []uint64{1}) {
			t.Errorf("unit %d: %s, lit %v, %d operations, pending %d", unit, got, s.Lit(), s.Ops(), s.Pending())
		}
	}
}

// P5.2, P5.3: the last write to a sector is what is read, ahead of a flush and behind it; a sector of another write keeps its own.
func TestReadWrite(t *testing.T) {
	for _, unit := range units {
		s := fresh(t, unit, 6)
		expect(t, "Write", s.Write(1, full(unit, "ABC")), api.OK)
		expect(t, "Write", s.Write(2, full(unit, "DE")), api.OK)
		expect(t, "Write", s.Write(5, full(unit, "F")), api.OK)
		into := make([]byte, 6*unit)
		if e := s.Read(0, into); e != api.OK || !bytes.Equal(into, full(unit, "\x00ADE\x00F")) {
			t.Errorf("unit %d: error %d, or another thing", unit, e)
		}
		if got := show(t, s); got != ".ADE.F ......" || !slices.Equal(s.Pending(), []uint64{1, 2, 3, 2, 3, 5}) {
			t.Errorf("unit %d: %s, pending %d", unit, got, s.Pending())
		}
		expect(t, "Flush", s.Flush(), api.OK)
		expect(t, "Write", s.Write(2, full(unit, "\x00")), api.OK)
		if got := show(t, s); got != ".A.E.F .ADE.F" {
			t.Errorf("unit %d: zeros over what is durable: %s", unit, got)
		}
		part := full(unit, "xy")
		if e := s.Read(2, part); e != api.OK || !bytes.Equal(part, full(unit, "\x00E")) {
			t.Errorf("unit %d: a part: error %d, or another thing", unit, e)
		}
		if c := s.Counts(); c != (api.SlabCounts{Reads: 2, Writes: 4, Flushes: 1, Fetched: 8, Stored: 7}) {
			t.Errorf("unit %d: %v", unit, c)
		}
	}
}

// P5.2: a read fills its list and nothing behind it.
func TestReadRoom(t *testing.T) {
	for _, unit := range units {
		s := fresh(t, unit, 4)
		s.Write(0, full(unit, "ABCD"))
		all := full(unit, "xxxxx")
		expect(t, "Read", s.Read(1, all[unit:2*unit]), api.OK)
		if !bytes.Equal(all, full(unit, "xBxxx")) {
			t.Errorf("unit %d: bytes beside what is read are changed", unit)
		}
	}
}

// P5.4: the log is laid over the medium in its order, and is empty; an empty one is flushed too.
func TestFlush(t *testing.T) {
	for _, unit := range units {
		s := fresh(t, unit, 3)
		expect(t, "Flush of nothing", s.Flush(), api.OK)
		s.Write(0, full(unit, "AB"))
		s.Write(1, full(unit, "CD"))
		s.Write(0, full(unit, "E"))
		expect(t, "Flush", s.Flush(), api.OK)
		if got := show(t, s); got != "ECD ECD" || len(s.Pending()) != 0 {
			t.Errorf("unit %d: %s, pending %d", unit, got, s.Pending())
		}
		s.Write(0, full(unit, "\x00F"))
		expect(t, "Flush", s.Flush(), api.OK)
		expect(t, "Flush", s.Flush(), api.OK)
		if got := show(t, s); got != ".FD .FD" || s.Ops() != 8 || s.Counts().Flushes != 4 {
			t.Errorf("unit %d: %s, %d operations, %v", unit, got, s.Ops(), s.Counts())
		}
	}
}

// P5.6: a sector is used by what it holds now, by what the medium holds, by both; not by a write that another one lies over.
func TestUsed(t *testing.T) {
	for _, unit := range units {
		s := fresh(t, unit, 1<<32)
		last := append(make([]byte, unit-1), 1)
		steps := []struct {
			name string
			do   func() api.Errno
			want []uint64
		}{
			{"nothing", func() api.Errno { return api.OK }, nil},
			{"zeros are written", func() api.Errno { return s.Write(3, make([]byte, unit)) }, nil},
			{"now", func() api.Errno { return s.Write(9, full(unit, "A")) }, []uint64{9}},
			{"another one, far off", func() api.Errno { return s.Write(1<<32-1, last) }, []uint64{9, 1<<32 - 1}},
			{"the first one", func() api.Errno { return s.Write(0, last) }, []uint64{0, 9, 1<<32 - 1}},
			{"zeros over what is not durable", func() api.Errno { return s.Write(9, make([]byte, unit)) }, []uint64{0, 1<<32 - 1}},
			{"flushed", s.Flush, []uint64{0, 1<<32 - 1}},
			{"zeros over what is durable", func() api.Errno { return s.Write(0, make([]byte, unit)) }, []uint64{0, 1<<32 - 1}},
			{"zeros flushed", s.Flush, []uint64{1<<32 - 1}},
			{"by hand, under zeros", func() api.Errno { s.Write(5, make([]byte, unit)); return s.Poke(5, last) }, []uint64{5, 1<<32 - 1}},
			{"now and by hand", func() api.Errno { return s.Write(5, full(unit, "B")) }, []uint64{5, 1<<32 - 1}},
			{"now alone", func() api.Errno { return s.Poke(5, make([]byte, unit)) }, []uint64{5, 1<<32 - 1}},
			{"without power", s.Off, []uint64{5, 1<<32 - 1}},
			{"restarted", func() api.Errno { return s.Restart() }, []uint64{1<<32 - 1}},
			{"by hand, zeros", func() api.Errno { return s.Poke(1<<32-1, make([]byte, unit)) }, nil},
		}
		for _, step := range steps {
			expect(t, step.name, step.do(), api.OK)
			if u := s.Used(); !slices.Equal(u, step.want) {
				t.Errorf("unit %d: %s: used %d, not %d", unit, step.name, u, step.want)
			}
		}
	}
}

// P5.6: rising, however many there are and in whatever order they came.
func TestUsedRises(t *testing.T) {
	s := fresh(t, 512, 5000)
	for i := range uint64(600) {
		at := i * 2999 % 5000
		if i%2 == 0 {
			s.Poke(at, full(512, "A"))
		} else {
			s.Write(at, full(512, "B"))
		}
	}
	if u := s.Used(); len(u) != 600 || !slices.IsSorted(u) {
		t.Errorf("%d sectors are used, sorted: %v", len(u), slices.IsSorted(u))
	}
}

// P5.7: what there is no sector of; a wrong length; both.
func TestHandsRefused(t *testing.T) {
	for _, unit := range units {
		for _, count := range []uint64{1, 5, 1 << 32} {
			s := fresh(t, unit, count)
			for _, at := range []uint64{count, count + 1, 1 << 63, math.MaxUint64} {
				if b, e := s.Peek(at); b != nil || e != api.ErrSector {
					t.Errorf("Peek(%d) of %d: %d bytes, error %d", at, count, len(b), e)
				}
				if b, e := s.Rest(at); b != nil || e != api.ErrSector {
					t.Errorf("Rest(%d) of %d: %d bytes, error %d", at, count, len(b), e)
				}
				for _, n := range []int{0, unit, unit + 1} {
					expect(t, "Poke of no sector", s.Poke(at, make([]byte, n)), api.ErrSector)
				}
			}
			for _, n := range []int{0, 1, unit - 1, unit + 1, 2 * unit, 4096 + unit} {
				expect(t, fmt.Sprintf("Poke of %d bytes, unit %d", n, unit), s.Poke(count-1, bytes.Repeat([]byte{1}, n)), api.ErrShort)
			}
			if s.Ops() != 0 || len(s.Used()) != 0 || len(s.Pending()) != 0 {
				t.Errorf("unit %d, count %d: hands that were refused did something", unit, count)
			}
		}
	}
}

// P5.7: with power and without, Poke changes the medium under the log's writes, which stay; nothing of it is an operation.
func TestHands(t *testing.T) {
	for _, unit := range units {
		for _, dark := range []bool{false, true} {
			s := fresh(t, unit, 4)
			s.Write(1, full(unit, "AB"))
			if dark {
				s.Off()
			}
			expect(t, "Poke", s.Poke(1, full(unit, "C")), api.OK)
			expect(t, "Poke", s.Poke(3, full(unit, "D")), api.OK)
			if got := show(t, s); got != ".ABD .C.D" {
				t.Errorf("unit %d: %s", unit, got)
			}
			if s.Lit() == dark || s.Ops() != 1 || !slices.Equal(s.Pending(), []uint64{1, 2}) || s.Counts() != (api.SlabCounts{Writes: 1, Stored: 2}) {
				t.Errorf("unit %d: hands changed more: %v, %d, %d", unit, s.Lit(), s.Ops(), s.Pending())
			}
			other := s.Copy()
			other.Restart()
			if got := show(t, other); got != ".C.D .C.D" {
				t.Errorf("unit %d: behind a restart: %s", unit, got)
			}
			s.Restart(true)
			if got := show(t, s); got != ".A.D .A.D" {
				t.Errorf("unit %d: behind a restart that keeps a write: %s", unit, got)
			}
		}
	}
}

// What a nil slab answers: ErrNil ahead of every other error, else zero values.
func TestNilSlab(t *testing.T) {
	var s *slab.Slab
	into := []byte{1, 2, 3}
	for name, e := range map[string]api.Errno{
		"Read": s.Read(0, into), "Read of nothing": s.Read(math.MaxUint64, nil), "Write": s.Write(0, into), "Write of nothing": s.Write(math.MaxUint64, nil),
		"Flush": s.Flush(), "Off": s.Off(), "Restart": s.Restart(), "Restart that keeps": s.Restart(true, false), "Poke": s.Poke(0, into), "Poke of nothing": s.Poke(0, nil),
	} {
		expect(t, name, e, api.ErrNil)
	}
	if b, e := s.Peek(0); b != nil || e != api.ErrNil {
		t.Errorf("Peek: %d bytes, error %d", len(b), e)
	}
	if b, e := s.Rest(math.MaxUint64); b != nil || e != api.ErrNil {
		t.Errorf("Rest: %d bytes, error %d", len(b), e)
	}
	if s.Unit() != 0 || s.Count() != 0 || s.Lit() || s.Ops() != 0 || s.Counts() != (api.SlabCounts{}) || len(s.Pending()) != 0 || len(s.Used()) != 0 || s.Copy() != nil {
		t.Errorf("a nil slab tells something")
	}
	if !bytes.Equal(into, []byte{1, 2, 3}) {
		t.Errorf("what is handed in is changed")
	}
}

// The package leans on api alone.
func TestImports(t *testing.T) {
	files, err := filepath.Glob("*.go")
	if err != nil || len(files) == 0 {
		t.Fatal(files, err)
	}
	for _, name := range files {
		if strings.HasSuffix(name, "_test.go") {
			continue
		}
		f, err := parser.ParseFile(token.NewFileSet(), name, nil, parser.ImportsOnly)
		if err != nil {
			t.Fatal(err)
		}
		for _, i := range f.Imports {
			path, _ := strconv.Unquote(i.Path.Value)
			if !slices.Contains([]string{"coffer/api", "maps", "slices"}, path) {
				t.Errorf("%s imports %s", name, path)
			}
		}
	}
}
