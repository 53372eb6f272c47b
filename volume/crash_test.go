package volume_test

import (
	"bytes"
	"fmt"
	"maps"
	"math/rand"
	"slices"
	"testing"

	"coffer/api"
	"coffer/slab"
	"coffer/spring"
	"coffer/volume"
)

// bench is a slab at one of whose operations the power goes, or an error is answered.
type bench struct {
	*slab.Slab
	left   int  // operations till then; 0: never
	off    bool // the power goes
	spared int  // sectors of a write that are written all the same; odd: a Flush is done
}

func (b *bench) tick() bool {
	b.left--
	return b.left == 0
}

// fails is what is answered then.
func (b *bench) fails() api.Errno {
	if !b.off {
		return api.ErrDevice
	}
	b.Off()
	return api.ErrOff
}

func (b *bench) Read(at uint64, into []byte) api.Errno {
	if b.tick() {
		return b.fails()
	}
	return b.Slab.Read(at, into)
}

func (b *bench) Write(at uint64, data []byte) api.Errno {
	if b.tick() {
		if n := min(b.spared, len(data)/b.Unit()); n > 0 {
			b.Slab.Write(at, data[:n*b.Unit()])
		}
		return b.fails()
	}
	return b.Slab.Write(at, data)
}

func (b *bench) Flush() api.Errno {
	if b.tick() {
		if b.spared%2 == 1 {
			b.Slab.Flush()
		}
		return b.fails()
	}
	return b.Slab.Flush()
}

// crash takes the power away and gives it again.
func (b *bench) crash(keep func(i int) bool) {
	b.Off()
	kept := make([]bool, len(b.Pending()))
	for i := range kept {
		kept[i] = keep(i)
	}
	b.Restart(kept...)
	b.left = 0
}

// life is a run of P14.15: a device, a volume over it, and what is known of both.
type life struct {
	t       *testing.T
	name    string
	r       *rand.Rand
	bench   *bench
	spring  *spring.Spring
	master  []byte
	v       *volume.Volume
	now     *shadow    // with what is read now
	durable []byte     // the contents of the last Flush
	since   [][]string // by sector: what was written to it since
	opened  int        // Opens that were answered OK behind an error
	behind  int        // of them: those that found the metadata behind the call that was cut short
}

func newLife(t *testing.T, seed int64) *life {
	unit := units[seed%2]
	d, e := slab.New(unit, first(unit)+many)
	must(t, "slab.New", e)
	l := &life{t: t, r: rand.New(rand.NewSource(seed)), bench: &bench{Slab: d}, spring: fresh(t, 1<<20)}
	must(t, "Format", volume.Format(l.bench, l.spring, format(), []byte("a")))
	l.v, e = volume.Open(l.bench, []byte("a"), -1, 3)
	must(t, "Open", e)
	l.master = mustMaster(t, l.v)
	must(t, "Write", l.v.Write(0, contents(unit, 0, many, 0)))
	must(t, "Flush", l.v.Flush())
	l.now = newShadow(format(), "a", unit, contents(unit, 0, many, 0))
	l.settled()
	return l
}

// settled: all that is read now is durable.
func (l *life) settled() {
	l.durable = bytes.Clone(l.now.data)
	l.since = make([][]string, many)
}

// sector gives one of some data.
func (l *life) sector(data []byte, i int) string {
	return string(data[i*l.now.unit : (i+1)*l.now.unit])
}

// acts makes a call, with whatever the device answers; it tells whether the life goes on as it was.
func (l *life) acts(a act) bool {
	l.t.Helper()
	after := l.now.again()
	want := after.does(a)
	got := a.does(l.v, l.spring)
	failed := got.e == api.ErrDevice || got.e == api.ErrOff
	if !failed && got != want {
		l.t.Fatalf("%s: %v: error %d, not %d", l.name, a, got.e, want.e)
	}
	if a.kind == "Write" && want.e == api.OK {
		for i := range len(a.bytes) / l.now.unit {
			at := int(a.at) + i
			l.since[at] = append(l.since[at], l.sector(a.bytes, i))
		}
	}
	if !failed {
		l.now = after
		if got.e == api.OK && a.flushes() {
			l.settled()
		}
		return true
	}
	if got.over || got.slot > 0 {
		l.t.Fatalf("%s: %v: something beside an error", l.name, a)
	}
	l.stops(a, after)
	return false
}

// stops: the device has answered an error. The volume is stuck, closed, or goes on; then either the power goes, or it is closed and opened again.
func (l *life) stops(a act, after *shadow) {
	l.t.Helper()
	state := l.v.Status().State
	switch a.kind {
	case "Close":
		if state != api.Closed {
			l.t.Fatalf("%s: not closed", l.name)
		}
	case "Read", "Write", "Flush", "Suspend":
		if state != api.Opened {
			l.t.Fatalf("%s: %v: state %d", l.name, a, state)
		}
	case "Resume":
		if state != api.Suspended {
			l.t.Fatalf("%s: state %d", l.name, state)
		}
	case "RotateStep":
		if state != api.Stuck {
			l.t.Fatalf("%s: state %d", l.name, state)
		}
	}
	if state == api.Stuck {
		if e := l.v.Write(0, make([]byte, l.now.unit)); e != api.ErrStuck {
			l.t.Fatalf("%s: a stuck volume: %d", l.name, e)
		}
	}
	if l.bench.Lit() && (state == api.Opened || state == api.Suspended) && l.r.Intn(2) == 0 {
		l.goesOn(a)
		return
	}
	if !l.bench.Lit() || l.r.Intn(2) == 0 {
		l.crash()
	}
	after.data = l.now.data // what the contents are is asked below
	l.revives(l.now, after)
}

// goesOn: the volume is as it was, but for sectors at a Write's beginning.
func (l *life) goesOn(a act) {
	l.t.Helper()
	told(l.t, l.name, l.v, l.now)
	if a.kind != "Write" {
		return
	}
	data := make([]byte, many*l.now.unit)
	expect(l.t, l.name+": Read", l.v.Read(0, data), api.OK)
	part := 0
	for part < len(a.bytes)/l.now.unit && l.sector(data, int(a.at)+part) == l.sector(a.bytes, part) {
		part++
	}
	copy(l.now.data[int(a.at)*l.now.unit:], a.bytes[:part*l.now.unit])
	if !bytes.Equal(data, l.now.data) {
		l.t.Fatalf("%s: %v: other data than before and sectors at the beginning", l.name, a)
	}
}

func (l *life) crash() {
	share := l.r.Intn(5)
	l.bench.crash(func(int) bool { return l.r.Intn(4) < share })
}

// revives opens the volume, again and again till the device answers no error; what is found are the metadata ahead of the call that was cut short, or those behind it.
func (l *life) revives(before, after *shadow) {
	l.t.Helper()
	for e := api.ErrOff; e != api.OK; {
		if l.r.Intn(3) == 0 {
			l.bench.left, l.bench.off, l.bench.spared = 1+l.r.Intn(60), l.r.Intn(2) == 0, l.r.Intn(5)
		}
		var slot int
		l.v, slot, e = l.opens(before, after)
		if e == api.OK {
			l.bench.left = 0
			l.found(before, after, slot)
			return
		}
		if e != api.ErrOff && e != api.ErrDevice || l.v != nil {
			l.t.Fatalf("%s: Open: error %d", l.name, e)
		}
		if !l.bench.Lit() || l.r.Intn(2) == 0 {
			l.crash()
		}
	}
}

// opens opens it by a keyslot whose passphrase is the same ahead of the call and behind it, or by the master key.
func (l *life) opens(before, after *shadow) (*volume.Volume, int, api.Errno) {
	for _, n := range slices.Sorted(maps.Keys(before.slots)) {
		x := before.slots[n]
		if after.slots[n].pass == x.pass && after.slots[n].area == x.area && l.r.Intn(2) == 0 {
			v, e := volume.Open(l.bench, []byte(x.pass), n, 1+l.r.Intn(16))
			return v, n, e
		}
	}
	v, e := volume.Reopen(l.bench, l.master, 1+l.r.Intn(16))
	return v, -1, e
}

// found holds a volume that was opened behind an error against what it may be.
func (l *life) found(before, after *shadow, slot int) {
	l.t.Helper()
	l.opened++
	for _, m := range []*shadow{before, after} {
		m.state, m.slot = api.Opened, slot
	}
	l.now = before
	if got := l.v.Status(); !sameStatus(got, before.status()) || !sameTokens(l.v.Tokens(), before.notes()) || !l.slotsAre(before) {
		l.now = after
		l.behind++
	}
	told(l.t, l.name, l.v, l.now)
	allOpen(l.t, l.name, l.bench.Copy(), l.now)
	data := make([]byte, many*l.now.unit)
	expect(l.t, l.name+": Read", l.v.Read(0, data), api.OK)
	for i := range many {
		if x := l.sector(data, i); x != l.sector(l.durable, i) && !slices.Contains(l.since[i], x) {
			l.t.Fatalf("%s: sector %d is none of what it may be", l.name, i)
		}
	}
	l.now.data = data
	l.settled()
	l.swept()
}

// slotsAre tells whether the keyslots are those of a model, by their areas and priorities: a Status does not tell them.
func (l *life) slotsAre(m *shadow) bool {
	st := stage{t: l.t, master: l.master}
	for _, x := range st.ring(l.bench.Copy()).Meta().Slots {
		if y := m.slots[x.Number]; x.Area != y.area || x.Priority != y.priority {
			return false
		}
	}
	return true
}

// swept: what lies in no area is zeros, on the medium.
func (l *life) swept() {
	l.t.Helper()
	var disk []byte
	for i := range first(l.now.unit) {
		b, e := l.bench.Rest(i)
		must(l.t, "Rest", e)
		disk = append(disk, b...)
	}
	unclaimed(l.t, l.name, (&stage{t: l.t, master: l.master}).ring(l.bench.Copy()).Meta(), disk)
}

// P14.15, P14.16: any calls, and errors and crashes at any operations, in the midst of Opens too.
func TestLives(t *testing.T) {
	t.Parallel()
	for seed := range int64(32) {
		t.Run(fmt.Sprint("seed ", seed), func(t *testing.T) {
			t.Parallel()
			l := newLife(t, seed)
			for i := range 600 {
				l.name = fmt.Sprintf("call %d", i)
				if l.bench.left <= 0 && l.r.Intn(4) == 0 {
					l.bench.left, l.bench.off, l.bench.spared = 1+l.r.Intn(40), l.r.Intn(3) > 0, l.r.Intn(5)
				}
				if l.acts(anyAct(l.r, l.now)) {
					told(t, l.name, l.v, l.now)
				}
				if l.now.state == api.Closed {
					l.bench.left = 0
					l.revives(l.now, l.now)
				}
				if t.Failed() {
					return
				}
			}
			if l.opened < 20 || l.behind < 5 {
				t.Errorf("%d Opens behind an error, %d of which found the metadata behind it", l.opened, l.behind)
			}
		})
	}
}

// P14.15: the power goes at each operation of one call, whichever it is, with all, nothing or some of what is not durable kept; data were written that were not flushed.
func TestEachCall(t *testing.T) {
	t.Parallel()
	turn := api.Turn{Cipher: "aes128-ecb", Mode: api.ByDigests, Hot: 8, Back: true}
	for _, a := range []act{
		{kind: "Write", at: 3, bytes: contents(512, 3, 9, 77)}, {kind: "Flush"}, {kind: "Suspend"}, {kind: "Close"},
		{kind: "AddSlot", pass: "d", slot: -1, priority: 1, stripes: 3}, {kind: "ChangeSlot", pass: "e", slot: 0, priority: 1, stripes: 129}, {kind: "KillSlot", slot: 2}, {kind: "PreferSlot", slot: 2, priority: 2},
		{kind: "Note", token: api.Token{Number: 3, Kind: "k", Slots: []int{2}}}, {kind: "Unnote", token: api.Token{Number: 1}},
		{kind: "RotateStart", turn: turn}, {kind: "RotateStep", at: 1}, {kind: "RotateStep", at: 2}, {kind: "RotateStep", at: 3}, {kind: "RotateStep", at: 4},
	} {
		t.Run(a.kind, func(t *testing.T) {
			t.Parallel()
			for _, mode := range []int{api.ByJournal, api.ByDigests} {
				for op := 1; ; op++ {
					over := false
					for way := range 8 {
						over = cut(t, a, mode, op, way)
					}
					if over {
						break
					}
				}
			}
		})
	}
}

// cut lets the power go at one operation of a call: whether the call has fewer of them.
func cut(t *testing.T, a act, mode, op, way int) bool {
	t.Helper()
	l := newLife(t, int64(2*way))
	l.name = fmt.Sprintf("%v, mode %d, operation %d, way %d", a, mode, op, way)
	ready := []act{
		{kind: "AddSlot", pass: "c", slot: 2, priority: 1, stripes: 2},
		{kind: "Note", token: api.Token{Number: 1, Kind: "k", Slots: []int{0, 2}}},
	}
	if a.kind != "RotateStart" {
		ready = append(ready, act{kind: "RotateStart", turn: api.Turn{Cipher: "aes128-cbc-essiv:sha256", Mode: mode, Back: way%2 == 0, Hot: 8}})
	}
	if a.kind == "RotateStep" {
		ready = append(ready, slices.Repeat([]act{{kind: "RotateStep"}}, int(a.at)-1)...)
	}
	for i := range 3 {
		ready = append(ready, act{kind: "Write", at: uint64(5 * i), bytes: contents(512, uint64(7*i), 6, uint64(i+50))})
	}
	for _, x := range ready {
		if !l.acts(x) {
			t.Fatalf("%s: %v", l.name, x)
		}
	}
	l.bench.left, l.bench.off, l.bench.spared = op, true, way%7
	after := l.now.again()
	after.does(a)
	if l.acts(a) {
		l.crash()
		passes := maps.Clone(after.slots)
		l.revives(l.now, after)
		if !maps.Equal(passes, l.now.slots) {
			t.Errorf("%s: what was answered OK is not there", l.name)
		}
		return true
	}
	return false
}
