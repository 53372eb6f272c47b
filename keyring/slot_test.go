package keyring_test

import (
	"bytes"
	"fmt"
	"math"
	"slices"
	"testing"

	"coffer/api"
	"coffer/keyring"
	"coffer/spring"
)

// asking is what a call of a keyslot is handed, and whose it is.
type asking struct {
	v      *volume
	spring *spring.Spring
	pass   []byte
	slot   int
	o      api.SlotOpts
	prio   int
}

// hitch has the ring get stuck, by a Sweep whose last operation, the Flush, fails.
func hitch(t *testing.T, v *volume) {
	t.Helper()
	for range 2 { // the second one finds nothing to write, like the one that fails
		v.tape.plan(0, 0, 0)
		expect(t, "a Sweep", v.Sweep(), api.OK)
	}
	v.tape.plan(len(v.tape.asked), api.ErrDevice, 0)
	expect(t, "a Sweep that fails", v.Sweep(), api.ErrDevice)
	v.tape.plan(0, 0, 0)
}

// stuckRing is told ahead of all else.
func stuckRing(t *testing.T) wrong[asking] {
	return wrong[asking]{"stuck", 0, api.ErrStuck, func(a *asking) { hitch(t, a.v) }}
}

// noCommit lists why metadata are not committed, by the ranks of the two errors.
func noCommit(t *testing.T, rank int) []wrong[asking] {
	return []wrong[asking]{
		{"the last number", rank, api.ErrHeadField, func(a *asking) { a.v.rewrite(a.v.Meta(), 1<<62) }},
		{"no room for the text", rank + 1, api.ErrHeadText, func(a *asking) { a.v.fill(0) }},
	}
}

// noSlotMade lists what Add and Change refuse alike.
func noSlotMade(t *testing.T) []wrong[asking] {
	out := []wrong[asking]{
		stuckRing(t),
		{"locked", 1, api.ErrLocked, func(a *asking) { a.v.Lock() }},
		{"no spring", 2, api.ErrNil, func(a *asking) { a.spring = nil }},
		{"a long passphrase", 4, api.ErrLong, func(a *asking) { a.pass = make([]byte, 513) }},
		{"no place", 6, api.ErrFullRing, func(a *asking) { a.o.Stripes = 3 * 128 }},
		{"no draw left", 7, api.ErrThirst, func(a *asking) { a.spring = thirsty(t, 0) }},
		{"a draw left", 7, api.ErrThirst, func(a *asking) { a.spring = thirsty(t, 1) }},
	}
	for name, do := range wrongOpts() {
		out = append(out, wrong[asking]{name, 3, api.ErrArg, func(a *asking) { do(&a.o) }})
	}
	return append(out, noCommit(t, 8)...)
}

// wrongNumbers lists keyslots' numbers that may not be.
func wrongNumbers(rank int, numbers ...int) []wrong[asking] {
	var out []wrong[asking]
	for _, n := range numbers {
		out = append(out, wrong[asking]{fmt.Sprint("number ", n), rank, api.ErrArg, func(a *asking) { a.slot = n }})
	}
	return out
}

// refusals asks a call with all that it refuses, alone and two at a time: its first error is told, nothing is written, and the ring is as it was. The volume has keyslots 0 and 5, and two places left.
func refusals(t *testing.T, all []wrong[asking], call func(a asking) api.Errno) {
	pairs(all, func(name string, want api.Errno, do ...func(a *asking)) {
		v := newVolume(t, 512, format())
		v.add("b", 5, opts())
		a := asking{v: v, spring: fresh(t, 100), pass: []byte("p"), slot: 0, o: opts(), prio: 1}
		for _, f := range do {
			f(&a)
		}
		v.tape.asked = nil
		disk, m, seq, locked, stuck := bytes.Clone(v.tape.disk), v.Meta(), v.Seq(), v.Locked(), v.Stuck()
		before := a.spring.Copy()
		expect(t, name, call(a), want)
		v.tape.holds(name, disk)
		stands(t, name, v.Ring, m, seq, locked, stuck)
		if want < api.ErrThirst || want > api.ErrHeadText {
			if a.spring != nil && !alike(a.spring, before) {
				t.Errorf("%s: something was drawn", name)
			}
		}
	})
}

// P10.7: each refusal of Add, in their order.
func TestAddRefused(t *testing.T) {
	t.Parallel()
	all := append(noSlotMade(t), wrongNumbers(3, math.MinInt, -2, 32, math.MaxInt)...)
	all = append(all, wrong[asking]{"it is there", 5, api.ErrThere, func(a *asking) { a.slot = 5 }})
	for _, slot := range []int{-1, 7} {
		refusals(t, all, func(a asking) api.Errno {
			if a.slot == 0 {
				a.slot = slot
			}
			n, e := a.v.Add(a.spring, a.pass, a.slot, a.o)
			if n != -1 {
				t.Errorf("%d beside error %d", n, e)
			}
			return e
		})
	}
}

// P10.8: each refusal of Change, in their order.
func TestChangeRefused(t *testing.T) {
	t.Parallel()
	all := append(noSlotMade(t), wrongNumbers(3, math.MinInt, -2, -1, 32, math.MaxInt)...)
	all = append(all, wrong[asking]{"it is not there", 5, api.ErrSlot, func(a *asking) { a.slot = 6 }})
	refusals(t, all, func(a asking) api.Errno {
		if a.o.Stripes == 2 { // the text grows by just this digit
			a.o.Stripes = 10
		}
		return a.v.Change(a.spring, a.pass, a.slot, a.o)
	})
}

// P10.9: each refusal of Kill. Its text never grows.
func TestKillRefused(t *testing.T) {
	all := append([]wrong[asking]{
		stuckRing(t), noCommit(t, 4)[0],
		{"it is not there", 2, api.ErrSlot, func(a *asking) { a.slot = 6 }},
		{"it is the only one", 3, api.ErrLast, func(a *asking) {
			a.v.rewrite(changed(a.v.Meta(), func(m *api.Meta) { m.Slots = m.Slots[:1] }), a.v.Seq())
		}},
	}, wrongNumbers(1, math.MinInt, -2, -1, 32, math.MaxInt)...)
	refusals(t, all, func(a asking) api.Errno { return a.v.Kill(a.slot) })
}

// P10.10: each refusal of Prefer.
func TestPreferRefused(t *testing.T) {
	all := append([]wrong[asking]{
		stuckRing(t), noCommit(t, 3)[0],
		{"it is not there", 2, api.ErrSlot, func(a *asking) { a.slot = 6 }},
		{"priority -1", 1, api.ErrArg, func(a *asking) { a.prio = -1 }},
		{"priority 3", 1, api.ErrArg, func(a *asking) { a.prio = 3 }},
		{"the greatest priority", 1, api.ErrArg, func(a *asking) { a.prio = math.MaxInt }},
	}, wrongNumbers(1, math.MinInt, -2, -1, 32, math.MaxInt)...)
	refusals(t, all, func(a asking) api.Errno { return a.v.Prefer(a.slot, a.prio) })
}

// put gives metadata with a keyslot in its place.
func put(m api.Meta, s api.Slot) api.Meta {
	return changed(m, func(m *api.Meta) {
		m.Slots = append(slices.DeleteFunc(m.Slots, func(x api.Slot) bool { return x.Number == s.Number }), s)
		slices.SortFunc(m.Slots, func(a, b api.Slot) int { return a.Number - b.Number })
	})
}

// addAs adds a keyslot and holds all of it against the model.
func addAs(t *testing.T, name string, v *volume, pass string, slot, want int, at int64, o api.SlotOpts) {
	t.Helper()
	v.tape.asked = nil
	m, seq := v.Meta(), v.Seq()
	model := v.spring.Copy()
	s, content := modelSlot(t, model, want, at, o, v.master, []byte(pass))
	disk := overlaid(v.tape.disk, at, content)
	m = put(m, s)
	n, e := v.Add(v.spring, []byte(pass), slot, o)
	if n != want || e != api.OK {
		t.Errorf("%s: %d, error %d", name, n, e)
		return
	}
	v.tape.holds(name, overlaid(disk, 0, copies(t, m, seq+1)), append([]event{v.tape.wrote(at, s.Area.Size)}, v.tape.committed(m.Shape.Head)...)...)
	stands(t, name, v.Ring, m, seq+1, false, false)
	if !alike(v.spring, model) {
		t.Errorf("%s: more or less was drawn", name)
	}
	opens(t, name, v.load(), pass, want, want, api.OK)
}

// P10.7: numbers that are named and those that are free, the least places, keyslots of all sizes.
func TestAdd(t *testing.T) {
	t.Parallel()
	for i, unit := range units {
		v := newVolume(t, unit, format(func(f *api.Format) { f.Keys = 1 << 18 }))
		name := fmt.Sprint("unit ", unit)
		at := int64(32768 + 4096)
		for j, stripes := range []int{1, 128, 129, 17, 2050} {
			o := opts(func(o *api.SlotOpts) {
				o.Stripes, o.Hash, o.Priority, o.Turns, o.Cipher = stripes, 256*(1+(i+j)%2), j%3, 1+j, []string{"aes256-hctr2-plain64", "aes192-cbc-tcw", "aes128-lrw-benbi"}[j%3]
			})
			slot := []int{-1, 31, -1, 2, -1}[j]
			want := []int{1, 31, 2, 3, 4}[j]
			if slot == 2 {
				slot = 3
			}
			addAs(t, fmt.Sprint(name, ", stripes ", stripes), v, fmt.Sprint("pass ", j), slot, want, at, o)
			at += int64((32*stripes + 4095) / 4096 * 4096)
		}
	}
}

// P10.7: the least number and the least place that are free, between others; a place that is a byte's step too small is passed by.
func TestAddBetween(t *testing.T) {
	v := newVolume(t, 1024, format(func(f *api.Format) { f.Keys = 8 * 4096 }))
	two := opts(func(o *api.SlotOpts) { o.Stripes = 129 })
	addAs(t, "at 1", v, "b", -1, 1, 36864, opts())
	addAs(t, "at 2", v, "c", -1, 2, 40960, two)
	addAs(t, "at 4", v, "d", -1, 3, 49152, opts())
	expect(t, "Kill", v.Kill(0), api.OK)
	addAs(t, "two do not fit at 0", v, "e", -1, 0, 53248, two)
	expect(t, "Kill", v.Kill(2), api.OK)
	addAs(t, "the first hole", v, "f", 9, 9, 32768, opts())
	addAs(t, "the second hole", v, "g", -1, 2, 40960, opts())
	addAs(t, "what is left of it", v, "h", -1, 4, 45056, opts())
	_, e := v.Add(v.spring, nil, -1, two)
	expect(t, "two at the end", e, api.ErrFullRing)
	addAs(t, "the end", v, "i", 31, 31, 61440, opts())
	_, e = v.Add(v.spring, nil, -1, opts())
	expect(t, "full", e, api.ErrFullRing)
	for slot, pass := range map[int]string{0: "e", 1: "b", 2: "g", 3: "d", 4: "h", 9: "f", 31: "i"} {
		opens(t, "each", v.Ring, pass, -1, slot, api.OK)
	}
}

// P10.7: thirty-two keyslots: no number is left, though there is a place.
func TestAddAll(t *testing.T) {
	v := newVolume(t, 4096, format(func(f *api.Format) { f.Keys, f.Head = 34*4096, 32768 }))
	for n := 1; n < 32; n++ {
		if got := v.add(fmt.Sprint(n), -1, opts()); got != n {
			t.Errorf("%d, not %d", got, n)
		}
	}
	n, e := v.Add(v.spring, nil, -1, opts())
	if n != -1 || e != api.ErrFullRing {
		t.Errorf("a keyslot too many: %d, error %d", n, e)
	}
	n, e = v.Add(v.spring, nil, 17, opts())
	if n != -1 || e != api.ErrThere {
		t.Errorf("one that is there: %d, error %d", n, e)
	}
	expect(t, "Kill", v.Kill(17), api.OK)
	addAs(t, "again", v, "new", -1, 17, 65536+17*4096, opts())
	for n := range 32 {
		pass := fmt.Sprint(n)
		switch n {
		case 0:
			pass = "a"
		case 17:
			pass = "new"
		}
		opens(t, "each", v.Ring, pass, -1, n, api.OK)
	}
}

// P10.7, 0.4: a text that fills its room to the last byte is committed; one that has a byte more is not.
func TestAddText(t *testing.T) {
	v := newVolume(t, 512, format())
	short, _ := keyring.Load(v.tape.again())
	expect(t, "Unlock", short.Unlock(v.master), api.OK)
	before := len(textOf(t, v.Meta()))
	if n, e := short.Add(v.spring.Copy(), []byte("p"), 9, opts()); n != 9 || e != api.OK {
		t.Fatalf("Add: error %d", e)
	}
	grows := len(textOf(t, short.Meta())) - before
	v.fill(grows)
	was := v.spring.Copy()
	addAs(t, "just enough room", v, "p", 9, 9, 36864, opts())
	expect(t, "Kill", v.Kill(9), api.OK)
	v.fill(grows - 1)
	v.spring = was
	if n, e := v.Add(v.spring, []byte("p"), 9, opts()); n != -1 || e != api.ErrHeadText {
		t.Errorf("a byte too little: %d, error %d", n, e)
	}
}

// textOf gives the text that stands in a copy of metadata.
func textOf(t *testing.T, m api.Meta) string {
	t.Helper()
	b := copies(t, m, 1)[4096:m.Shape.Head]
	return string(b[:bytes.IndexByte(b, 0)])
}

// changeAs changes a keyslot and holds all of it against the model.
func changeAs(t *testing.T, name string, v *volume, pass string, slot int, at int64, o api.SlotOpts) {
	t.Helper()
	v.tape.asked = nil
	m, seq := v.Meta(), v.Seq()
	old := m.Slots[slices.IndexFunc(m.Slots, func(s api.Slot) bool { return s.Number == slot })].Area
	model := v.spring.Copy()
	s, content := modelSlot(t, model, slot, at, o, v.master, []byte(pass))
	m = put(m, s)
	disk := overlaid(overlaid(v.tape.disk, at, content), old.Offset, make([]byte, old.Size))
	order := append([]event{v.tape.wrote(at, s.Area.Size)}, v.tape.committed(m.Shape.Head)...)
	order = append(order, v.tape.wrote(old.Offset, old.Size), flushed)
	expect(t, name, v.Change(v.spring, []byte(pass), slot, o), api.OK)
	v.tape.holds(name, overlaid(disk, 0, copies(t, m, seq+1)), order...)
	stands(t, name, v.Ring, m, seq+1, false, false)
	if !alike(v.spring, model) {
		t.Errorf("%s: more or less was drawn", name)
	}
	opens(t, name, v.load(), pass, slot, slot, api.OK)
}

// P10.8: another passphrase and other options, in another area; the old one is zeros.
func TestChange(t *testing.T) {
	t.Parallel()
	for i, unit := range units {
		v := newVolume(t, unit, format(func(f *api.Format) { f.Keys = 1 << 16 }))
		v.add("b", 20, opts(func(o *api.SlotOpts) { o.Stripes = 300 }))
		expect(t, "Note", v.Note(api.Token{Number: 0, Kind: "k", Slots: []int{0, 20}}), api.OK)
		name := fmt.Sprint("unit ", unit)
		changeAs(t, name, v, "c", 0, 49152, opts(func(o *api.SlotOpts) { o.Hash, o.Turns, o.Priority = 512, 2+i, 2 }))
		opens(t, name, v.Ring, "a", 0, -1, api.ErrPass)
		opens(t, name, v.Ring, "b", -1, 20, api.OK)
		changeAs(t, name, v, "d", 20, 32768, opts(func(o *api.SlotOpts) { o.Stripes, o.Cipher, o.Priority = 1, "aes256-cbc-elephant", 0 }))
		changeAs(t, name, v, "d", 20, 53248, opts(func(o *api.SlotOpts) { o.Stripes, o.Cipher = 512, "aes192-ecb" }))
		opens(t, name, v.Ring, "c", -1, 0, api.OK)
		opens(t, name, v.Ring, "d", -1, 20, api.OK)
	}
}

// P10.8: the old area is no free place, and it counts against the new one: a ring that is full changes nothing.
func TestChangeFull(t *testing.T) {
	v := newVolume(t, 512, format(func(f *api.Format) { f.Keys = 3 * 4096 }))
	two := opts(func(o *api.SlotOpts) { o.Stripes = 200 })
	changeAs(t, "one of two", v, "b", 0, 36864, opts())
	expect(t, "two, and one each side", v.Change(v.spring, []byte("c"), 0, two), api.ErrFullRing)
	changeAs(t, "back", v, "c", 0, 32768, opts())
	changeAs(t, "two behind it", v, "d", 0, 36864, two)
	expect(t, "two of one", v.Change(v.spring, []byte("e"), 0, two), api.ErrFullRing)
	v.add("f", -1, opts())
	expect(t, "full", v.Change(v.spring, []byte("e"), 1, opts()), api.ErrFullRing)
	opens(t, "as it was", v.Ring, "d", -1, 0, api.OK)
	opens(t, "as it was", v.Ring, "f", -1, 1, api.OK)
}

// P10.9: the metadata without it, then zeros over its area; its number is in no token's list; a locked ring too.
func TestKill(t *testing.T) {
	t.Parallel()
	for _, unit := range units {
		for _, locked := range []bool{false, true} {
			v := newVolume(t, unit, format(func(f *api.Format) { f.Keys = 1 << 16 }))
			v.add("b", 7, opts(func(o *api.SlotOpts) { o.Stripes = 400 }))
			v.add("c", 3, opts())
			for _, n := range []api.Token{{Number: 1, Kind: "k", Slots: []int{0, 3, 7}}, {Number: 2, Kind: "k", Slots: []int{7}}, {Number: 3, Kind: "k", Slots: []int{0, 3}}, {Number: 9, Kind: "k"}} {
				expect(t, "Note", v.Note(n), api.OK)
			}
			if locked {
				v.Lock()
			}
			v.tape.asked = nil
			m := changed(v.Meta(), func(m *api.Meta) {
				m.Slots = m.Slots[:2]
				m.Tokens[0].Slots = []int{0, 3}
				m.Tokens[1].Slots = nil
			})
			seq := v.Seq()
			disk := overlaid(v.tape.disk, 36864, make([]byte, 4*4096))
			expect(t, "Kill", v.Kill(7), api.OK)
			v.tape.holds("Kill", overlaid(disk, 0, copies(t, m, seq+1)), append(v.tape.committed(16384), v.tape.wrote(36864, 4*4096), flushed)...)
			stands(t, "Kill", v.Ring, m, seq+1, locked, false)
			expect(t, "again", v.Kill(7), api.ErrSlot)
			opens(t, "gone", v.load(), "b", -1, -1, api.ErrPass)
			expect(t, "Kill", v.Kill(0), api.OK)
			expect(t, "the last one", v.Kill(3), api.ErrLast)
			opens(t, "the last one", v.load(), "c", -1, 3, api.OK)
		}
	}
}

// P10.10: each priority, also the one that it had.
func TestPrefer(t *testing.T) {
	v := newVolume(t, 512, format())
	v.add("b", 6, opts())
	for _, locked := range []bool{false, true} {
		for _, priority := range []int{2, 2, 0, 1, 0, 0, 1, 1} {
			for i, slot := range []int{0, 6} {
				v.tape.asked = nil
				seq := v.Seq()
				m := changed(v.Meta(), func(m *api.Meta) { m.Slots[i].Priority = priority })
				disk := overlaid(v.tape.disk, 0, copies(t, m, seq+1))
				expect(t, "Prefer", v.Prefer(slot, priority), api.OK)
				v.tape.holds("Prefer", disk, v.tape.committed(16384)...)
				stands(t, "Prefer", v.Ring, m, seq+1, locked, false)
			}
		}
		v.Lock()
	}
	expect(t, "Prefer", v.Prefer(6, 2), api.OK)
	opens(t, "named", v.Ring, "a", 0, 0, api.OK)
	v.fill(0)
	expect(t, "no room", v.Prefer(6, 1), api.OK) // a priority has one digit whichever it is
}
