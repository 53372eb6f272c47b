package probe_test

import (
	"bytes"
	"fmt"
	"math/rand"
	"slices"
	"strings"
	"testing"

	"coffer/api"
	"coffer/header"
	"coffer/ledger"
	"coffer/probe"
	"coffer/slab"
)

// looks holds Look, and Dump, against the second reckoning: what was seen.
func looks(t *testing.T, name string, d *tape) api.Seen {
	t.Helper()
	kept := bytes.Clone(d.disk)
	got, e := probe.Look(d)
	expect(t, name, e, api.OK)
	want := modelLook(d)
	if !sameSeen(got, want) {
		t.Errorf("%s: Look\n%+v, not\n%+v", name, got, want)
	}
	text, e := probe.Dump(d)
	expect(t, name+": Dump", e, api.OK)
	expect(t, name+": Dump", text, strings.Join(append(modelLines(want), ""), "\n"))
	if !bytes.Equal(d.disk, kept) {
		t.Errorf("%s: the device is changed", name)
	}
	return got
}

// P15.1: no device, one of no unit that may be, and one that is off.
func TestNoDevice(t *testing.T) {
	refused := func(name string, d api.Device, want api.Errno) {
		t.Helper()
		s, e := probe.Look(d)
		expect(t, name, e, want)
		if !sameSeen(s, api.Seen{}) {
			t.Errorf("%s: %+v beside an error", name, s)
		}
		text, e := probe.Dump(d)
		expect(t, name+": Dump", e, want)
		expect(t, name+": Dump", text, "")
	}
	refused("nil", nil, api.ErrNil)
	for _, unit := range []int{-512, 0, 1, 256, 511, 513, 1536, 8192, 1 << 20} {
		refused(fmt.Sprint("unit ", unit), oddDevice{unit: unit, count: 100}, api.ErrArg)
	}
	s, _ := slab.New(512, 80)
	s.Off()
	refused("off", s, api.ErrOff)
	refused("a nil slab", (*slab.Slab)(nil), api.ErrArg)
}

// oddDevice is one that tells any sizes, and answers whatever is asked by zeros.
type oddDevice struct {
	unit  int
	count uint64
}

func (d oddDevice) Unit() int                             { return d.unit }
func (d oddDevice) Count() uint64                         { return d.count }
func (d oddDevice) Read(at uint64, into []byte) api.Errno { clear(into); return api.OK }
func (d oddDevice) Write(uint64, []byte) api.Errno        { panic("it is written") }
func (d oddDevice) Flush() api.Errno                      { panic("it is flushed") }

// P15.1, P15.8: devices of all sizes, of zeros.
func TestEmpty(t *testing.T) {
	for _, unit := range units {
		for _, count := range []uint64{1, 2, 3, 7, 8, 9, 31, 32, 64, 65, 1000, 1 << 32, 1<<64 - 1} {
			d := oddDevice{unit, count}
			s, e := probe.Look(d)
			expect(t, fmt.Sprint(d), e, api.OK)
			want := api.Seen{Unit: unit, Count: count, First: api.SeenCopy{Why: api.ErrMagic}, Second: api.SeenCopy{Why: api.ErrHeader}}
			if count*uint64(unit) < 4096 {
				want.First.Why = api.ErrShort
			}
			if !sameSeen(s, want) {
				t.Errorf("%v: %+v", d, s)
			}
		}
	}
}

// P15.1: all fields of a volume without and with a rotation, of each unit, its areas, unclaimed sectors and data filled with this and that.
func TestVolume(t *testing.T) {
	for _, unit := range units {
		for i, m := range []api.Meta{still(unit, 9), turning(unit, 9, false, 1, 3, 4), turning(unit, 9, true, 2, 3, 9)} {
			name := fmt.Sprint("unit ", unit, ", ", i)
			d := laid(t, m)
			s := looks(t, name, d)
			if s.Takes != 1 || !s.Both || s.Mends || !s.Fits || s.Dirty != 0 || s.Journal != api.OK || len(probe.Compare(s.Meta, m)) != 0 || len(probe.Compare(s.Other, m)) != 0 {
				t.Errorf("%s: %+v", name, s)
			}
			expect(t, name+": seq", s.First.Seq, 1)
			expect(t, name+": head", s.Second.Head, 16384)
			expect(t, name+": zeros", len(s.Areas) > 2 && s.Areas[0] == api.SeenArea{Slot: 1, Area: m.Slots[0].Area, Zero: true, Judge: api.ErrSick}, true)
			noise(int64(unit), d.disk[32768:32768+keys])
			s = looks(t, name+", random", d)
			expect(t, name+": random", s.Areas[1] == api.SeenArea{Slot: 4, Area: m.Slots[1].Area}, true)
			free := uint64(keys - 16384)
			if m.Rotation.On {
				free -= 16384
				expect(t, name+": the rotation's", s.Areas[3] == api.SeenArea{Slot: -1, Area: m.Rotation.Area}, true)
			}
			expect(t, name+": dirty", s.Dirty, free/uint64(unit))
			noise(7, d.disk[32768+keys:])
			looks(t, name+", data", d)
		}
	}
}

// P15.1: one byte anywhere in the keyslots area is seen where it lies, and nowhere else.
func TestOneByte(t *testing.T) {
	t.Parallel()
	for _, unit := range units {
		base := laid(t, turning(unit, 3, false, 2, 3, 1))
		for at := 32768; at < 32768+keys+unit; at += unit {
			for _, at := range []int{at, at + unit - 1} {
				d := base.again()
				d.disk[at] = 1
				s := looks(t, fmt.Sprint("unit ", unit, ", byte ", at), d)
				odd := int(s.Dirty)
				for _, a := range s.Areas {
					if !a.Zero {
						odd++
					}
				}
				expect(t, fmt.Sprint("byte ", at), odd == 1, at < 32768+keys)
			}
			if t.Failed() {
				return
			}
		}
	}
}

// P15.1: which copy is taken, whether the other one is well, and whether it would be mended.
func TestTakes(t *testing.T) {
	t.Parallel()
	older, newer := still(512, 9), turning(512, 9, false, 1, 3, 4)
	newer.Label, newer.Slots = "another", newer.Slots[1:]
	newer.Tokens = nil
	other := tidy(newer)
	other.Slots[0].Turns++
	texts := []string{"", "{}", strings.Repeat("x", 12287)}
	for _, m := range []api.Meta{older, newer, other} {
		text, e := ledger.Print(m)
		must(t, "Print", e)
		texts = append(texts, text, " "+text)
	}
	var copies []api.HeadCopy
	for i, text := range texts {
		for seq := range uint64(3) {
			c := copyOf([]api.Meta{older, newer}[i%2], 1+seq*seq, 16384, text)
			copies = append(copies, c)
		}
	}
	met := map[string]int{}
	for i, a := range copies {
		for j, b := range copies {
			d := newTape(t, 512, older.Shape.Count)
			b.Second = true
			lay(t, d, a)
			lay(t, d, b)
			s := looks(t, fmt.Sprint(i, ", ", j), d)
			met[fmt.Sprint(s.Takes, s.Both, s.Mends)]++
		}
	}
	for _, kind := range []string{"0 false false", "1 true false", "1 true true", "1 false true", "2 true true", "2 false true"} {
		if met[kind] < 9 {
			t.Errorf("%s came %d times", kind, met[kind])
		}
		delete(met, kind)
	}
	if len(met) > 0 {
		t.Errorf("%v", met)
	}
}

// P15.1: the places and the errors of a text that is not well.
func TestTexts(t *testing.T) {
	m := still(512, 9)
	right, e := ledger.Print(m)
	must(t, "Print", e)
	for _, text := range []string{"", "{", "{}", "[1,]", right[:len(right)-1], right + "x", strings.Replace(right, `"unit":512`, `"unit":513`, 1), strings.Replace(right, `"hash":"sha256"`, `"hash":"md5"`, 1)} {
		_, why, place := ledger.Parse(text)
		d := newTape(t, 512, m.Shape.Count)
		lay(t, d, copyOf(m, 7, 16384, text))
		s := looks(t, text, d)
		expect(t, text, s.First, api.SeenCopy{Text: why, Place: place, Seq: 7, Head: 16384, Long: len(text)})
		expect(t, text, s.Second, api.SeenCopy{Why: api.ErrMagic})
		expect(t, text, s.Takes, 0)
	}
}

// P15.1: one byte of either copy is another one.
func TestTornCopies(t *testing.T) {
	t.Parallel()
	base := laid(t, still(512, 9))
	for at := 0; at < 32768; at += 61 {
		d := base.again()
		d.disk[at] ^= 0x10
		s := looks(t, fmt.Sprint("byte ", at), d)
		expect(t, fmt.Sprint("byte ", at, ": takes"), s.Takes, 1+btoi(at < 16384))
		expect(t, fmt.Sprint("byte ", at, ": mends"), s.Mends && !s.Both && s.Fits, true)
	}
}

func btoi(b bool) int {
	if b {
		return 1
	}
	return 0
}

// P15.1: copies that are good and well, of a device of another unit or count, or of another Head.
func TestFits(t *testing.T) {
	base := turning(512, 9, false, 2, 3, 1)
	for _, c := range []struct {
		name  string
		unit  int
		count uint64
		head  int
		fits  bool
	}{
		{"as it is", 512, base.Shape.Count, 16384, true},
		{"one sector more", 512, base.Shape.Count + 1, 16384, false},
		{"one sector less", 512, base.Shape.Count - 1, 16384, false},
		{"another unit", 1024, base.Shape.Count, 16384, false},
		{"as many bytes", 4096, base.Shape.Count / 8, 16384, false},
		{"a greater Head", 512, base.Shape.Count, 32768, false},
		{"the greatest Head that has room", 1024, base.Shape.Count, 65536, false},
	} {
		m := step(newTape(t, 512, base.Shape.Count), base) // a step in the midst, of which nothing is told but where it fits
		d := newTape(t, c.unit, c.count)
		noise(3, d.disk)
		commit(t, d, m, 1<<61, c.head)
		s := looks(t, c.name, d)
		expect(t, c.name, s.Fits, c.fits)
		expect(t, c.name+": takes", s.Takes, 1)
		expect(t, c.name+": areas", len(s.Areas) == 4, c.fits)
		expect(t, c.name+": seq", s.First.Seq, 1<<61+1)
		fill(d.disk[:4096], 0)
		s = looks(t, c.name+", the second alone", d)
		expect(t, c.name, s.Takes, 2)
		expect(t, c.name, s.Fits, c.fits)
		expect(t, c.name+": head", s.Second.Head, c.head)
	}
}

// P15.1: a shape that fits a greater Head, and a copy of that Head.
func TestGreatHead(t *testing.T) {
	for _, head := range []int{32768, 1 << 18} {
		m := still(2048, 5)
		by := int64(2*head - 32768)
		m.Shape.Head, m.Shape.Count = head, m.Shape.Count+uint64(by)/2048
		for i := range m.Slots {
			m.Slots[i].Area.Offset += by
		}
		d := laid(t, m)
		noise(1, d.disk[2*head:2*head+20480])
		s := looks(t, fmt.Sprint("head ", head), d)
		expect(t, "fits", s.Fits, true)
		expect(t, "dirty", s.Dirty, (4096+8192)/2048)
		fill(d.disk[:100], 0)
		s = looks(t, fmt.Sprint("head ", head), d)
		expect(t, "takes", s.Takes, 2)
		expect(t, "dirty", s.Dirty, (4096+8192)/2048)
	}
}

// P15.1: Journal and Moved, of steps in the midst of all kinds: any of the hotzone's sectors written anew, the journal changed within and behind what its Sum is of.
func TestStep(t *testing.T) {
	t.Parallel()
	r := rand.New(rand.NewSource(15))
	for _, unit := range units {
		for mode := 1; mode <= 2; mode++ {
			for _, back := range []bool{false, true} {
				for _, done := range []uint64{0, 1, 4, 6, 8} {
					name := fmt.Sprint("unit ", unit, ", mode ", mode, ", back ", back, ", done ", done)
					base := newTape(t, unit, still(unit, 9).Shape.Count)
					noise(int64(unit), base.disk)
					m := step(base, turning(unit, 9, back, mode, 4, done))
					commit(t, base, m, 0, 16384)
					expect(t, name, looks(t, name, base).Journal, api.OK)
					stepsOf(t, name, r, base, m)
				}
			}
		}
	}
}

func stepsOf(t *testing.T, name string, r *rand.Rand, base *tape, m api.Meta) {
	t.Helper()
	first, count := modelNext(m)
	for range 3 {
		d := base.again()
		moved := uint64(0)
		for i := range count {
			if r.Intn(2) == 0 {
				d.sector(first + i)[r.Intn(d.unit)] ^= 1 << r.Intn(8)
				moved += uint64(m.Rotation.Mode - 1) // a journal of sectors tells nothing of it
			}
		}
		for i := uint64((32768 + keys) / d.unit); i < d.Count(); i++ {
			if i < first || i >= first+count {
				fill(d.sector(i), byte(i)) // no matter what others hold
			}
		}
		s := looks(t, name, d)
		expect(t, name+": moved", s.Moved, moved)
		expect(t, name+": journal", s.Journal, api.OK)
	}
	size := int(count) * 32
	if m.Rotation.Mode == 1 {
		size = int(count) * base.unit
	}
	for _, at := range []int{0, 1, size / 2, size - 1, size, size + 1, 16383} {
		d := base.again()
		d.disk[int(m.Rotation.Area.Offset)+at]++
		fill(d.sector(first), 0) // not counted where the journal is wrong
		s := looks(t, name, d)
		expect(t, fmt.Sprint(name, ": byte ", at), s.Journal == api.ErrJournal, at < size)
		expect(t, fmt.Sprint(name, ": byte ", at, ": moved"), s.Moved == 1, at >= size && m.Rotation.Mode == 2)
	}
}

// P15.1: a rotation that is on and not in a step: nothing is told of its journal.
func TestNoStep(t *testing.T) {
	for mode := 1; mode <= 2; mode++ {
		d := laid(t, turning(512, 9, false, mode, 4, 2))
		noise(1, d.disk[32768:])
		s := looks(t, fmt.Sprint("mode ", mode), d)
		expect(t, "journal", s.Journal, api.OK)
		expect(t, "moved", s.Moved, 0)
	}
}

// P15.1: the greatest hotzones: more than one call of the device would read of a smaller journal.
func TestGreatStep(t *testing.T) {
	t.Parallel()
	for mode := 1; mode <= 2; mode++ {
		m := turning(512, 5000, mode == 1, mode, 4096, 1)
		m.Shape.Keys = 1<<21 + 49152
		m.Shape.Count = uint64((32768+m.Shape.Keys)/512) + 5000
		m.Rotation.Area = api.Area{Offset: 81920, Size: 1 << 21}
		m.Slots[1].Area.Offset = 65536
		d := newTape(t, 512, m.Shape.Count)
		noise(1, d.disk)
		m = step(d, m)
		commit(t, d, m, 0, 16384)
		first, count := modelNext(m)
		expect(t, "count", count, 4096)
		for i := range uint64(100) {
			d.sector(first + i*i%4096)[0]++
		}
		s := looks(t, fmt.Sprint("mode ", mode), d)
		expect(t, "journal", s.Journal, api.OK)
		expect(t, "moved", s.Moved > 50, mode == 2)
		d.disk[m.Rotation.Area.Offset]++
		expect(t, "journal", looks(t, fmt.Sprint("mode ", mode), d).Journal, api.ErrJournal)
	}
}

// P15.1: areas and free runs of more bytes than are tested, and than one call of the device reads.
func TestGreatAreas(t *testing.T) {
	t.Parallel()
	const most = 1 << 20
	size := int64(5 << 20)
	m := turning(512, 9, false, 1, 3, 4)
	m.Shape.Keys = int(2*size) + 49152
	m.Shape.Count = uint64((32768+m.Shape.Keys)/512) + 9
	m.Rotation.Area = api.Area{Offset: 81920, Size: size}
	base := laid(t, m)
	area := func(d *tape) []byte { return d.disk[81920 : 81920+size] }
	for _, c := range []struct {
		name string
		do   func(b []byte)
		zero bool
		why  api.Errno
	}{
		{"zeros", func([]byte) {}, true, api.ErrSick},
		{"the last byte", func(b []byte) { b[size-1] = 1 }, false, api.ErrSick},
		{"the byte behind those that are tested", func(b []byte) { b[most] = 1 }, false, api.ErrSick},
		{"a byte in the last sector of the first call", func(b []byte) { b[1<<21-1] = 1 }, false, api.ErrSick},
		{"a byte of the second call", func(b []byte) { b[1<<21] = 1 }, false, api.ErrSick},
		{"random ones that are tested", func(b []byte) { noise(1, b[:most]) }, false, api.OK},
		{"random ones behind them", func(b []byte) { noise(1, b[most:]) }, false, api.ErrSick},
		{"all random", func(b []byte) { noise(1, b) }, false, api.OK},
		{"a run at the end of those that are tested", func(b []byte) { noise(1, b); fill(b[most-7:most], 5) }, false, api.ErrSick},
		{"a run behind them", func(b []byte) { noise(1, b); fill(b[most:most+7], 5) }, false, api.OK},
	} {
		d := base.again()
		c.do(area(d))
		s := looks(t, c.name, d)
		expect(t, c.name, s.Areas[3], api.SeenArea{Slot: -1, Area: m.Rotation.Area, Zero: c.zero, Judge: c.why})
		expect(t, c.name, s.Dirty, 0)
	}
	d := base.again()
	free := d.disk[81920+size : 32768+m.Shape.Keys]
	for _, at := range []int{0, 511, 512, 1 << 20, 1<<21 - 1, 1 << 21, 1 << 22, len(free) - 1} {
		free[at]++
	}
	expect(t, "dirty", looks(t, "free", d).Dirty, 7)
	noise(2, free)
	expect(t, "dirty", looks(t, "free", d).Dirty, uint64(len(free)/512))
}

// P15.8: two Looks tell the same, each in memory of its own.
func TestTwice(t *testing.T) {
	d := newTape(t, 512, still(512, 9).Shape.Count)
	noise(4, d.disk)
	m := step(d, turning(512, 9, true, 2, 3, 4))
	commit(t, d, m, 0, 16384)
	one, e := probe.Look(d)
	must(t, "Look", e)
	two, e := probe.Look(d)
	must(t, "Look", e)
	if !sameSeen(one, two) {
		t.Errorf("%+v, then %+v", one, two)
	}
	apart(t, one, two)
}

// P15.1: an error at each operation ends it there.
func TestErrors(t *testing.T) {
	for _, m := range []api.Meta{still(512, 9), turning(4096, 9, true, 1, 3, 4), turning(512, 9, false, 2, 3, 4)} {
		base := newTape(t, m.Shape.Unit, m.Shape.Count)
		noise(1, base.disk)
		if m.Rotation.On {
			m = step(base, m)
		}
		commit(t, base, m, 0, 16384)
		whole := base.again()
		_, e := probe.Look(whole)
		must(t, "Look", e)
		for op := 1; op <= whole.asked; op++ {
			for _, why := range []api.Errno{api.ErrDevice, api.ErrOff, api.ErrHeader, api.ErrNil, api.ErrJournal, -7} {
				d := base.again()
				d.fails, d.why = op, why
				s, e := probe.Look(d)
				expect(t, fmt.Sprint("operation ", op), e, why)
				if !sameSeen(s, api.Seen{}) {
					t.Errorf("operation %d: %+v beside an error", op, s)
				}
				d = base.again()
				d.fails, d.why = op, why
				text, e := probe.Dump(d)
				expect(t, fmt.Sprint("operation ", op, ": Dump"), e, why)
				expect(t, fmt.Sprint("operation ", op, ": Dump"), text, "")
			}
			d := base.again()
			d.fails, d.throws = op, true
			s, e := probe.Look(d)
			expect(t, fmt.Sprint("operation ", op, " throws"), e, api.ErrPanic)
			if !sameSeen(s, api.Seen{}) {
				t.Errorf("operation %d: %+v beside an error", op, s)
			}
		}
	}
}

// P15.1: a bad sector ends it, if what it holds makes a difference; else it ends it, or makes none.
func TestBadSectors(t *testing.T) {
	for _, m := range []api.Meta{still(512, 9), turning(512, 9, true, 1, 3, 4), turning(512, 9, false, 2, 3, 4)} {
		base := newTape(t, 512, m.Shape.Count)
		var first, count uint64
		if m.Rotation.On {
			m = step(base, m)
			first, count = modelNext(m)
		}
		commit(t, base, m, 0, 16384)
		want := looks(t, "all are good", base)
		for i := range m.Shape.Count {
			d := base.again()
			d.bad = map[uint64]api.Errno{i: api.ErrDevice}
			s, e := probe.Look(d)
			matters := i < (32768+keys)/512 || m.Rotation.Mode == api.ByDigests && i >= first && i < first+count
			switch {
			case e == api.ErrDevice && sameSeen(s, api.Seen{}):
			case matters || e != api.OK || !sameSeen(s, want):
				t.Errorf("sector %d: %+v, %d", i, s, e)
			}
		}
	}
}

// P15.10: behind a Load that answered OK, of whatever crashes and errors have left.
func TestBehindLoad(t *testing.T) {
	t.Parallel()
	r := rand.New(rand.NewSource(10))
	loads, mends := 0, 0
	for range 400 {
		d, e := slab.New(512, still(512, 9).Shape.Count)
		must(t, "New", e)
		commits(t, r, d)
		_, mended, e := header.Load(d, func(text string) bool { _, e, _ := ledger.Parse(text); return e == api.OK })
		if e != api.OK {
			continue
		}
		loads++
		mends += btoi(mended)
		s, e := probe.Look(d)
		must(t, "Look", e)
		if s.First.Why != api.OK || s.Second.Why != api.OK || s.First.Seq != s.Second.Seq || s.Takes != 1 || s.Mends || !s.Both || len(probe.Compare(s.Meta, s.Other)) != 0 {
			t.Fatalf("%+v", s)
		}
	}
	if loads < 200 || mends < 50 {
		t.Errorf("%d loads, %d of which mended", loads, mends)
	}
}

// commits writes headers, some of whose texts are not well, till the power goes in the midst of one.
func commits(t *testing.T, r *rand.Rand, d *slab.Slab) {
	t.Helper()
	c := copyOf(still(512, 9), 0, 16384, "")
	for i := range r.Intn(5) {
		m := turning(512, 9, i%2 == 0, 1, 3, uint64(r.Intn(10)))
		text, e := ledger.Print(m)
		must(t, "Print", e)
		if r.Intn(4) == 0 {
			text = text[:r.Intn(len(text))]
		}
		c.Label = fmt.Sprint("label ", r.Intn(3))
		next, e := header.Commit(d, c, text)
		must(t, "Commit", e)
		c = next
	}
	for _, at := range []uint64{0, 5, 32, 40} {
		if r.Intn(5) == 0 {
			b, e := d.Peek(at)
			must(t, "Peek", e)
			b[r.Intn(512)] ^= 1
			must(t, "Write", d.Write(at, b))
		}
	}
	must(t, "Off", d.Off())
	kept := make([]bool, len(d.Pending()))
	for i := range kept {
		kept[i] = r.Intn(2) == 0
	}
	must(t, "Restart", d.Restart(kept...))
}

// P15.8: whatever a device holds, something is told. Copies whose digests are right hold texts, and fields, of all kinds.
func TestAnyBytes(t *testing.T) {
	t.Parallel()
	r := rand.New(rand.NewSource(8))
	met := map[int]int{}
	for i := range 700 {
		unit := units[r.Intn(4)]
		m := turning(unit, 1+r.Intn(9), r.Intn(2) == 0, 1+r.Intn(2), uint64(1+r.Intn(4)), 0)
		d := newTape(t, unit, m.Shape.Count+uint64(btoi(r.Intn(9) == 0)))
		if r.Intn(3) == 0 {
			noise(int64(i), d.disk)
		}
		if r.Intn(2) == 0 {
			m = step(d, m)
		}
		for _, second := range []bool{false, true} {
			c := copyOf(m, 1+uint64(r.Intn(3)), 16384, mutated(t, r, m))
			c.Second = second
			lay(t, d, c)
		}
		for range r.Intn(3) {
			d.disk[r.Intn(len(d.disk))] ^= byte(1 + r.Intn(255))
		}
		met[looks(t, fmt.Sprint("device ", i), d).Takes]++
		if t.Failed() {
			return
		}
	}
	for takes := range 3 {
		if met[takes] < 50 {
			t.Errorf("takes %d came %d times", takes, met[takes])
		}
	}
}

// mutated gives the text of metadata, in which some bytes may be others.
func mutated(t *testing.T, r *rand.Rand, m api.Meta) string {
	t.Helper()
	text, e := ledger.Print(m)
	must(t, "Print", e)
	b := []byte(text)
	for r.Intn(2) == 0 {
		at := r.Intn(len(b))
		switch r.Intn(3) {
		case 0:
			b[at] = "0123456789{}[],:\" \x7f"[r.Intn(19)]
		case 1:
			b = slices.Delete(b, at, at+1)
		case 2:
			b = slices.Insert(b, at, '1')
		}
	}
	return string(b)
}
