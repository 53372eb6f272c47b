package keyring_test

import (
	"bytes"
	"fmt"
	"maps"
	"math/rand"
	"slices"
	"testing"

	"coffer/api"
	"coffer/keyring"
	"coffer/slab"
	"coffer/spring"
)

// keepWays is how many ways keeping knows.
const keepWays = 9

// keeping says which of n writes a crash keeps.
func keeping(way, n int) []bool {
	r := rand.New(rand.NewSource(int64(way)))
	keep := make([]bool, n)
	for i := range keep {
		switch way {
		case 0: // nothing
		case 1:
			keep[i] = true
		case 2:
			keep[i] = i%2 == 0
		case 3:
			keep[i] = i%2 == 1
		case 4:
			keep[i] = i == 0
		case 5:
			keep[i] = i > 0
		case 6:
			keep[i] = i < n/2
		case 7:
			keep[i] = i >= n/2
		default:
			keep[i] = r.Intn(2) == 0
		}
	}
	return keep
}

// P10.16, P10.17: the power goes at each operation of each call, with so many sectors of a write in the log, and all, nothing or some of the log kept: the metadata ahead of the call are found, or those behind it; each keyslot opens by its passphrase; behind a Sweep nothing is left in what is unclaimed.
func TestCrash(t *testing.T) {
	t.Parallel()
	for i, x := range deeds() {
		t.Run(x.name, func(t *testing.T) {
			t.Parallel()
			unit := units[i%4]
			v := scene(t, unit)
			whole := onSlab(t, v.tape)
			r := ready(t, v, whole)
			first := whole.Ops() + 1
			expect(t, x.name, x.call(r, v.spring.Copy()), api.OK)
			after, last := r.Meta(), whole.Ops()
			for op := first; op <= last+1; op++ {
				for _, n := range []int{0, 1, 2, 5, 1000} {
					for way := range keepWays {
						name := fmt.Sprintf("%s: power gone at %d of %d to %d with %d written, keeping %d", x.name, op, first, last, n, way)
						s := onSlab(t, v.tape, api.Glitch{Op: op, Kind: api.GlitchOff, N: n})
						r := ready(t, v, s)
						e := x.call(r, v.spring.Copy())
						if (e == api.OK) != (op > last) || e != api.OK && e != api.ErrOff {
							t.Fatalf("%s: error %d", name, e)
						}
						committed := same(r.Meta(), after) && r.Seq() == v.Seq()+1
						if e == api.OK {
							s.Off()
						}
						s.Restart(keeping(way, len(s.Pending()))...)
						revived(t, name, s, v, after, committed, x.passes)
					}
				}
			}
		})
	}
}

// revived loads a slab behind a crash; what was committed must be there.
func revived(t *testing.T, name string, s *slab.Slab, v *volume, after api.Meta, committed bool, passes map[int]string) {
	t.Helper()
	r, e := keyring.Load(s)
	if e == api.ErrOff { // the power that was to go behind the call
		s.Restart()
		r, e = keyring.Load(s)
	}
	if r == nil || e != api.OK {
		t.Errorf("%s: Load: error %d", name, e)
		return
	}
	switch {
	case same(r.Meta(), after):
		allOpen(t, name, r, passes)
	case same(r.Meta(), v.Meta()) && !committed:
		allOpen(t, name, r, before)
	default:
		t.Errorf("%s: found %s", name, brief(r.Meta()))
	}
	again, e := keyring.Load(s)
	expect(t, name+": loaded again", e, api.OK)
	if !same(again.Meta(), r.Meta()) || again.Seq() != r.Seq() {
		t.Errorf("%s: loaded again: %s", name, brief(again.Meta()))
	}
	expect(t, name+": Sweep", again.Sweep(), api.OK)
	if len(s.Pending()) != 0 {
		t.Errorf("%s: a Sweep leaves writes that are not durable", name)
	}
	unclaimedZeros(t, name, again.Meta(), restOf(t, s))
}

// What was taken away is zeros on the medium when the call has answered OK, and so is the area that a Change has left.
func TestGone(t *testing.T) {
	for _, unit := range units {
		v := scene(t, unit)
		s := onSlab(t, v.tape)
		r := ready(t, v, s)
		old := r.Meta().Slots[1].Area
		expect(t, "Change", r.Change(v.spring, []byte("q"), 5, opts()), api.OK)
		zeroed(t, "Change", s, old)
		now := r.Meta().Slots
		expect(t, "Kill", r.Kill(5), api.OK)
		zeroed(t, "Kill", s, now[1].Area)
		expect(t, "Kill", r.Kill(0), api.OK)
		zeroed(t, "Kill", s, now[0].Area)
		expect(t, "Sweep", r.Sweep(), api.OK)
		unclaimedZeros(t, "Sweep", r.Meta(), restOf(t, s))
		if len(s.Pending()) != 0 {
			t.Errorf("writes that are not durable")
		}
	}
}

// zeroed finds bytes of an area that the medium still holds.
func zeroed(t *testing.T, name string, s *slab.Slab, a api.Area) {
	t.Helper()
	if b := restOf(t, s)[a.Offset : a.Offset+a.Size]; len(bytes.Trim(b, "\x00")) > 0 {
		t.Errorf("%s: the area at %d is not zeros", name, a.Offset)
	}
}

// P10.1: the power goes at each operation of Make over another volume: that one is there, or nothing, or the new one.
func TestMakeCrash(t *testing.T) {
	t.Parallel()
	v := newVolume(t, 2048, format())
	f := format(func(f *api.Format) { f.Label, f.Keys = "new", 8192 })
	whole := onSlab(t, v.tape)
	r, e := keyring.Make(whole, fresh(t, 100), f, []byte("new"))
	expect(t, "Make", e, api.OK)
	met := map[string]int{}
	for op := int64(1); op <= whole.Ops(); op++ {
		for _, n := range []int{0, 1, 3, 1000} {
			for way := range keepWays {
				s := onSlab(t, v.tape, api.Glitch{Op: op, Kind: api.GlitchOff, N: n})
				name := fmt.Sprintf("power gone at %d with %d written, keeping %d", op, n, way)
				if r, e := keyring.Make(s, fresh(t, 100), f, []byte("new")); r != nil || e != api.ErrOff {
					t.Fatalf("%s: error %d", name, e)
				}
				s.Restart(keeping(way, len(s.Pending()))...)
				got, e := keyring.Load(s)
				switch {
				case e == api.ErrHeader && got == nil:
					met["nothing"]++
				case e == api.OK && same(got.Meta(), v.meta): // its keyslot need not open: one of layer 8's places lies in it
					met["what was there"]++
				case e == api.OK && same(got.Meta(), r.Meta()):
					met["the volume"]++
					opens(t, name, got, "new", -1, 0, api.OK)
					unclaimedZeros(t, name, got.Meta(), restOf(t, s))
				default:
					t.Errorf("%s: error %d", name, e)
				}
			}
		}
	}
	if len(met) != 3 {
		t.Errorf("%v", met)
	}
}

// life is a volume whose power goes again and again, and what is known of it.
type life struct {
	t      *testing.T
	name   string
	r      *rand.Rand
	s      *slab.Slab
	ring   *keyring.Ring
	spring *spring.Spring
	master []byte
	meta   api.Meta
	seq    uint64
	passes map[int]string
}

// P10.16, P10.17, P10.18: any calls, one behind the other, with crashes and errors at any operations.
func TestLives(t *testing.T) {
	t.Parallel()
	for seed := range int64(24) {
		t.Run(fmt.Sprint("seed ", seed), func(t *testing.T) {
			t.Parallel()
			l := newLife(t, seed)
			for step := range 60 {
				l.name = fmt.Sprintf("step %d", step)
				l.step()
				if t.Failed() {
					return
				}
			}
		})
	}
}

func newLife(t *testing.T, seed int64) *life {
	r := rand.New(rand.NewSource(seed))
	v := scene(t, units[seed%4])
	var plan []api.Glitch
	for op := int64(0); len(plan) < 400; {
		op += 1 + r.Int63n(60)
		kind := []int{api.GlitchOff, api.GlitchOff, api.GlitchOff, api.GlitchRead, api.GlitchWrite, api.GlitchPart, api.GlitchFlush}[r.Intn(7)]
		plan = append(plan, api.Glitch{Op: op, Kind: kind, N: r.Intn(40)})
	}
	l := &life{t: t, r: r, s: onSlab(t, v.tape, plan...), spring: v.spring, master: v.master, meta: v.Meta(), seq: v.Seq(), passes: maps.Clone(before)}
	l.begin(l.meta, l.seq, l.passes)
	return l
}

// begin loads the device, again and again till it answers; what is found are the metadata ahead of the call that was cut short, or those behind it.
func (l *life) begin(after api.Meta, seq uint64, passes map[int]string) {
	l.t.Helper()
	for {
		if !l.s.Lit() || l.r.Intn(4) == 0 {
			l.s.Off()
			l.s.Restart(keeping(l.r.Intn(keepWays), len(l.s.Pending()))...)
		}
		r, e := keyring.Load(l.s)
		if e != api.OK {
			if e != api.ErrOff && e != api.ErrDevice {
				l.t.Fatalf("%s: Load: error %d", l.name, e)
			}
			continue
		}
		switch {
		case r.Seq() == seq && same(r.Meta(), after):
			l.meta, l.seq, l.passes = after, seq, passes
		case r.Seq() == l.seq && same(r.Meta(), l.meta):
			after, seq, passes = l.meta, l.seq, l.passes // what was loaded once is not lost, nor is another one found later
		default:
			l.t.Fatalf("%s: found %d, %s", l.name, r.Seq(), brief(r.Meta()))
		}
		if l.use(r) {
			l.ring = r
			return
		}
	}
}

// use opens a ring that was loaded by one of its keyslots, and sweeps; false, if the device fails meanwhile.
func (l *life) use(r *keyring.Ring) bool {
	l.t.Helper()
	slots := slices.Sorted(maps.Keys(l.passes))
	slot := slots[l.r.Intn(len(slots))]
	n, e := r.Open([]byte(l.passes[slot]), slot)
	if e == api.ErrOff || e == api.ErrDevice {
		return false
	}
	m, f := r.Master()
	if n != slot || e != api.OK || f != api.OK || !bytes.Equal(m, l.master) {
		l.t.Fatalf("%s: keyslot %d: %d, errors %d, %d", l.name, slot, n, e, f)
	}
	if e := r.Sweep(); e != api.OK {
		return false
	}
	unclaimedZeros(l.t, l.name, r.Meta(), restOf(l.t, l.s))
	return true
}

// deed gives any call, and the passphrases behind it.
func (l *life) deed() (func(r *keyring.Ring, s *spring.Spring) api.Errno, map[int]string) {
	slot, pass := l.r.Intn(6), fmt.Sprint("pass ", l.r.Intn(1000))
	o := opts(func(o *api.SlotOpts) {
		o.Stripes, o.Hash, o.Priority = 1+l.r.Intn(200), 256*(1+l.r.Intn(2)), l.r.Intn(3)
	})
	passes := maps.Clone(l.passes)
	switch l.r.Intn(7) {
	case 0, 1:
		passes[slot] = pass
		return func(r *keyring.Ring, s *spring.Spring) api.Errno {
			_, e := r.Add(s, []byte(pass), slot, o)
			return e
		}, passes
	case 2:
		passes[slot] = pass
		return func(r *keyring.Ring, s *spring.Spring) api.Errno { return r.Change(s, []byte(pass), slot, o) }, passes
	case 3:
		delete(passes, slot)
		return func(r *keyring.Ring, s *spring.Spring) api.Errno { return r.Kill(slot) }, passes
	case 4:
		return func(r *keyring.Ring, s *spring.Spring) api.Errno { return r.Prefer(slot, o.Priority) }, passes
	case 5:
		return func(r *keyring.Ring, s *spring.Spring) api.Errno {
			return r.Note(api.Token{Number: slot, Kind: "k", Slots: []int{slot}, Note: pass})
		}, passes
	}
	return func(r *keyring.Ring, s *spring.Spring) api.Errno { return r.Unnote(slot) }, passes
}

// step makes a call, and the same call on a device that does not fail: so it is known what it must become.
func (l *life) step() {
	l.t.Helper()
	call, passes := l.deed()
	d := newTape(l.t, l.s.Unit(), 0)
	for at := range l.s.Count() {
		b, _ := l.s.Peek(at)
		d.disk = append(d.disk, b...)
	}
	twin, e := keyring.Load(d)
	expect(l.t, l.name+": Load of the twin", e, api.OK)
	expect(l.t, l.name+": Unlock of the twin", twin.Unlock(l.master), api.OK)
	want := call(twin, l.spring.Copy())
	if want != api.OK {
		passes = l.passes
	}
	e = call(l.ring, l.spring)
	switch {
	case e == want:
		l.meta, l.seq, l.passes = twin.Meta(), twin.Seq(), passes
		stands(l.t, l.name, l.ring, l.meta, l.seq, false, false)
		unclaimedZeros(l.t, l.name, l.meta, restOf(l.t, l.s))
	case e == api.ErrOff || e == api.ErrDevice:
		if !l.ring.Stuck() {
			l.t.Errorf("%s: error %d, not stuck", l.name, e)
		}
		l.begin(twin.Meta(), twin.Seq(), passes)
	default:
		l.t.Errorf("%s: error %d, not %d", l.name, e, want)
	}
}
