package keyring_test

import (
	"bytes"
	"fmt"
	"maps"
	"slices"
	"testing"

	"coffer/api"
	"coffer/keyring"
	"coffer/slab"
	"coffer/spring"
)

// deed is a call that writes, and what becomes of the keyslots' passphrases by it.
type deed struct {
	name   string
	call   func(r *keyring.Ring, s *spring.Spring) api.Errno
	passes map[int]string
}

// before are the passphrases of the scene's keyslots.
var before = map[int]string{0: "a", 5: "b", 9: "c"}

// deeds gives all calls that write, each of which the scene's ring answers OK.
func deeds() []deed {
	passes := func(slot int, pass string) map[int]string {
		m := maps.Clone(before)
		if m[slot] = pass; pass == "" {
			delete(m, slot)
		}
		return m
	}
	return []deed{
		{"Add", func(r *keyring.Ring, s *spring.Spring) api.Errno {
			_, e := r.Add(s, []byte("p"), -1, opts(func(o *api.SlotOpts) { o.Stripes = 140 }))
			return e
		}, passes(1, "p")},
		{"Change", func(r *keyring.Ring, s *spring.Spring) api.Errno {
			return r.Change(s, []byte("q"), 5, opts(func(o *api.SlotOpts) { o.Hash = 512 }))
		}, passes(5, "q")},
		{"Kill", func(r *keyring.Ring, s *spring.Spring) api.Errno { return r.Kill(5) }, passes(5, "")},
		{"Prefer", func(r *keyring.Ring, s *spring.Spring) api.Errno { return r.Prefer(9, 2) }, before},
		{"Note", func(r *keyring.Ring, s *spring.Spring) api.Errno {
			return r.Note(api.Token{Number: 1, Kind: "k", Slots: []int{9}})
		}, before},
		{"Unnote", func(r *keyring.Ring, s *spring.Spring) api.Errno { return r.Unnote(3) }, before},
		{"Commit", func(r *keyring.Ring, s *spring.Spring) api.Errno {
			return r.Commit(changed(r.Meta(), func(m *api.Meta) { m.Label = "another" }))
		}, before},
		{"Sweep", func(r *keyring.Ring, s *spring.Spring) api.Errno { return r.Sweep() }, before},
	}
}

// scene gives a volume with three keyslots and a token, and with something left behind in what is unclaimed.
func scene(t *testing.T, unit int) *volume {
	t.Helper()
	v := newVolume(t, unit, format(func(f *api.Format) { f.Keys = 12 * 4096 }))
	v.add("b", 5, opts(func(o *api.SlotOpts) { o.Stripes = 200 }))
	v.add("x", 8, opts())
	v.add("c", 9, opts())
	expect(t, "Kill", v.Kill(8), api.OK)
	expect(t, "Note", v.Note(api.Token{Number: 3, Kind: "k", Slots: []int{0, 5}}), api.OK)
	for _, at := range []int{45056, 45056 + 4095, 65536, 81919} {
		v.tape.disk[at] = 7
	}
	v.tape.asked = nil
	return v
}

// ready gives a ring over a device that holds the volume, loaded and opened by the master key.
func ready(t *testing.T, v *volume, d api.Device) *keyring.Ring {
	t.Helper()
	r, e := keyring.Load(d)
	if r == nil || e != api.OK {
		t.Fatalf("Load: error %d", e)
	}
	expect(t, "Unlock", r.Unlock(v.master), api.OK)
	return r
}

// commitEnd tells the number of the operation that ends the commit among some; none, if there is none.
func commitEnd(asked []event) int {
	for i, e := range asked {
		if e.kind == 'w' && e.at == 0 {
			return i + 2
		}
	}
	return len(asked) + 1
}

// allOpen finds keyslots that do not open by their passphrases, or others that are there.
func allOpen(t *testing.T, name string, r *keyring.Ring, passes map[int]string) {
	t.Helper()
	if got := len(r.Meta().Slots); got != len(passes) {
		t.Errorf("%s: %d keyslots, not %d", name, got, len(passes))
	}
	for slot, pass := range passes {
		opens(t, name, r, pass, slot, slot, api.OK)
	}
}

// 0.4: an error of the device at each operation of each call: it is answered, nothing is asked of the device behind it; the ring is stuck, unless it was a read, which comes ahead of the first write; what was committed is told. Who loads then finds the metadata ahead of the call, or behind it, and all keyslots open.
func TestFails(t *testing.T) {
	t.Parallel()
	for i, x := range deeds() {
		v := scene(t, units[i%4])
		whole := v.tape.again()
		r := ready(t, v, whole)
		whole.asked = nil
		expect(t, x.name, x.call(r, v.spring.Copy()), api.OK)
		after, end := r.Meta(), commitEnd(whole.asked)
		for op := 1; op <= len(whole.asked); op++ {
			for _, part := range []int{0, 1, 5} {
				name := fmt.Sprintf("%s, operation %d of %d, %d sectors", x.name, op, len(whole.asked), part)
				d := v.tape.again()
				r := ready(t, v, d)
				d.plan(op, 999, part)
				expect(t, name, x.call(r, v.spring.Copy()), 999)
				if !slices.Equal(d.asked, whole.asked[:op]) {
					t.Errorf("%s: %v", name, d.asked)
				}
				stuck := whole.asked[op-1].kind != 'r'
				if op > end {
					stands(t, name, r, after, v.Seq()+1, false, stuck)
				} else {
					stands(t, name, r, v.Meta(), v.Seq(), false, stuck)
				}
				if !stuck && !bytes.Equal(d.disk, v.tape.disk) {
					t.Errorf("%s: a read has failed, and something is written", name)
				}
				d.plan(0, 0, 0)
				if stuck {
					isStuck(t, name, r)
				} else {
					expect(t, name+", again", x.call(r, v.spring.Copy()), api.OK)
				}
				healed(t, name, d.again(), v, after, op > end, x.passes)
			}
		}
	}
}

// healed loads a device behind a call that failed: what is found, that it opens, and that a Sweep takes away what was left.
func healed(t *testing.T, name string, d *tape, v *volume, after api.Meta, must bool, passes map[int]string) {
	t.Helper()
	r, e := keyring.Load(d)
	if r == nil || e != api.OK {
		t.Errorf("%s: Load: error %d", name, e)
		return
	}
	switch {
	case same(r.Meta(), after):
		allOpen(t, name, r, passes)
	case same(r.Meta(), v.Meta()) && !must:
		allOpen(t, name, r, before)
	default:
		t.Errorf("%s: found %s", name, brief(r.Meta()))
	}
	expect(t, name+": Sweep", r.Sweep(), api.OK)
	unclaimedZeros(t, name, r.Meta(), d.disk)
}

// everything gives all calls of a ring that answer an error: that error, and whether every other result is the zero value (-1 of a keyslot's number).
func everything(r *keyring.Ring, s *spring.Spring) map[string]func() (api.Errno, bool) {
	return map[string]func() (api.Errno, bool){
		"Commit":       func() (api.Errno, bool) { return r.Commit(r.Meta()), true },
		"a wrong one":  func() (api.Errno, bool) { return r.Commit(api.Meta{}), true },
		"Open":         func() (api.Errno, bool) { n, e := r.Open([]byte("a"), -1); return e, n == -1 },
		"a wrong Open": func() (api.Errno, bool) { n, e := r.Open(make([]byte, 600), 77); return e, n == -1 },
		"Unlock":       func() (api.Errno, bool) { return r.Unlock(nil), true },
		"Master":       func() (api.Errno, bool) { m, e := r.Master(); return e, len(m) == 0 },
		"Add":          func() (api.Errno, bool) { n, e := r.Add(s, nil, -1, opts()); return e, n == -1 },
		"a wrong Add":  func() (api.Errno, bool) { n, e := r.Add(nil, nil, -7, api.SlotOpts{}); return e, n == -1 },
		"Change":       func() (api.Errno, bool) { return r.Change(s, nil, 0, opts()), true },
		"a wrong Change": func() (api.Errno, bool) {
			return r.Change(nil, nil, -1, api.SlotOpts{}), true
		},
		"Kill":         func() (api.Errno, bool) { return r.Kill(0), true },
		"a wrong Kill": func() (api.Errno, bool) { return r.Kill(-1), true },
		"Prefer":       func() (api.Errno, bool) { return r.Prefer(0, 1), true },
		"Epoch":        func() (api.Errno, bool) { p, e := r.Epoch(s, 1, "null"); return e, p == api.Epoch{} },
		"a wrong Epoch": func() (api.Errno, bool) {
			p, e := r.Epoch(nil, 1<<63, "")
			return e, p == api.Epoch{}
		},
		"Key":       func() (api.Errno, bool) { k, e := r.Key(0); return e, len(k) == 0 },
		"Key of 99": func() (api.Errno, bool) { k, e := r.Key(99); return e, len(k) == 0 },
		"Sweep":     func() (api.Errno, bool) { return r.Sweep(), true },
		"Note":      func() (api.Errno, bool) { return r.Note(api.Token{Kind: "k"}), true },
		"Unnote":    func() (api.Errno, bool) { return r.Unnote(3), true },
	}
}

// isStuck finds what a stuck ring does not refuse, and what it does not tell.
func isStuck(t *testing.T, name string, r *keyring.Ring) {
	t.Helper()
	d := r.Device().(*tape)
	disk, m, seq := bytes.Clone(d.disk), r.Meta(), r.Seq()
	s := fresh(t, 100)
	for call, ask := range everything(r, s) {
		if e, zero := ask(); e != api.ErrStuck || !zero {
			t.Errorf("%s: %s of a stuck ring: error %d", name, call, e)
		}
	}
	stands(t, name, r, m, seq, false, true)
	expect(t, name+": Lock", r.Lock(), api.OK)
	stands(t, name, r, m, seq, true, true)
	if e, _ := everything(r, s)["Key"](); e != api.ErrStuck { // ahead of ErrLocked
		t.Errorf("%s: Key of a stuck, locked ring: error %d", name, e)
	}
	d.holds(name, disk)
	if !alike(s, fresh(t, 100)) {
		t.Errorf("%s: a stuck ring draws", name)
	}
}

// Of a nil ring: nothing is told, and all calls answer ErrNil.
func TestNilRing(t *testing.T) {
	var r *keyring.Ring
	for name, ask := range everything(r, fresh(t, 100)) {
		if e, zero := ask(); e != api.ErrNil || !zero {
			t.Errorf("%s: error %d", name, e)
		}
	}
	expect(t, "Lock", r.Lock(), api.ErrNil)
	if !same(r.Meta(), api.Meta{}) || r.Seq() != 0 || r.Device() != nil || !r.Locked() || r.Stuck() {
		t.Errorf("%s, %d, %v", brief(r.Meta()), r.Seq(), r.Device())
	}
}

// P10.1, P10.7, P10.8, P10.11: no spring.
func TestNoSpring(t *testing.T) {
	v := newVolume(t, 512, format())
	var none *spring.Spring
	r, e := keyring.Make(v.tape, none, api.Format{}, make([]byte, 600))
	if r != nil || e != api.ErrNil {
		t.Errorf("Make: error %d", e)
	}
	n, e := v.Add(none, make([]byte, 600), 77, api.SlotOpts{})
	if n != -1 || e != api.ErrNil {
		t.Errorf("Add: %d, error %d", n, e)
	}
	expect(t, "Change", v.Change(none, make([]byte, 600), 77, api.SlotOpts{}), api.ErrNil)
	p, e := v.Epoch(none, 1<<63, "")
	if p != (api.Epoch{}) || e != api.ErrNil {
		t.Errorf("Epoch: error %d", e)
	}
	if len(v.tape.asked) != 0 {
		t.Errorf("%v", v.tape.asked)
	}
}

// 0.3: a spring that refuses in the midst of the stripes: nothing is changed but the spring.
func TestThirst(t *testing.T) {
	v := newVolume(t, 512, format(func(f *api.Format) { f.Keys = 1 << 19 }))
	for stripes, draws := range map[int]int{1: 1, 2: 2, 2049: 2, 2050: 3, 4000: 3} {
		o := opts(func(o *api.SlotOpts) { o.Stripes = stripes })
		for left := range draws {
			s := thirsty(t, left)
			if n, e := v.Add(s, nil, -1, o); n != -1 || e != api.ErrThirst || s.Left() != 0 {
				t.Errorf("%d stripes: Add: %d, error %d, %d left", stripes, n, e, s.Left())
			}
			s = thirsty(t, left)
			if e := v.Change(s, nil, 0, o); e != api.ErrThirst || s.Left() != 0 {
				t.Errorf("%d stripes: Change: error %d, %d left", stripes, e, s.Left())
			}
		}
		stands(t, "as it was", v.Ring, v.meta, 1, false, false)
		r := ready(t, v, v.tape.again())
		s := thirsty(t, draws)
		if n, e := r.Add(s, nil, -1, o); n != 1 || e != api.OK || s.Left() != 0 {
			t.Errorf("%d stripes, enough: %d, error %d", stripes, n, e)
		}
	}
	if len(v.tape.asked) != 0 {
		t.Errorf("%v", v.tape.asked)
	}
}

// quitter is a device that gives up at one operation.
type quitter struct {
	*tape
	at int
}

func (q *quitter) check() {
	if len(q.asked) == q.at {
		panic("no device does this")
	}
}

func (q *quitter) Read(at uint64, b []byte) api.Errno {
	e := q.tape.Read(at, b)
	q.check()
	return e
}

func (q *quitter) Write(at uint64, b []byte) api.Errno {
	e := q.tape.Write(at, b)
	q.check()
	return e
}

func (q *quitter) Flush() api.Errno {
	e := q.tape.Flush()
	q.check()
	return e
}

// Rule 1: no call panics, not even where the device does what no device may.
func TestDeviceGivesUp(t *testing.T) {
	for _, x := range deeds() {
		v := scene(t, 4096)
		for op := 1; op <= 4; op++ {
			q := &quitter{v.tape.again(), -1}
			r := ready(t, v, q)
			q.asked, q.at = nil, op
			if e := x.call(r, v.spring.Copy()); e != api.ErrPanic || !r.Stuck() {
				t.Errorf("%s, operation %d: error %d, stuck %v", x.name, op, e, r.Stuck())
			}
		}
	}
	v := newVolume(t, 4096, format())
	for op := 1; op <= 10; op++ {
		if r, e := keyring.Make(&quitter{newTape(t, 4096, 65536), op}, fresh(t, 100), format(), nil); r != nil || e != api.ErrPanic {
			t.Errorf("Make, operation %d: error %d", op, e)
		}
	}
	for op := 1; op <= 3; op++ {
		notLoaded(t, "Load", &quitter{v.tape.again(), op}, api.ErrPanic)
	}
}

// Example 5, on a slab, for each way in which Kill's zeros can fail.
func TestKillZerosFail(t *testing.T) {
	v := scene(t, 512)
	s := onSlab(t, v.tape)
	r := ready(t, v, s)
	expect(t, "Kill", r.Kill(0), api.OK)
	last := s.Ops()
	for _, g := range []api.Glitch{{Op: last - 1, Kind: api.GlitchWrite}, {Op: last - 1, Kind: api.GlitchPart, N: 3}, {Op: last, Kind: api.GlitchFlush}} {
		s := onSlab(t, v.tape, g)
		r := ready(t, v, s)
		expect(t, "Kill", r.Kill(0), api.ErrDevice)
		if m := r.Meta(); !r.Stuck() || len(m.Slots) != 2 || m.Slots[0].Number != 5 {
			t.Errorf("stuck %v, %s", r.Stuck(), brief(m))
		}
		expect(t, "Kill", r.Kill(5), api.ErrStuck)
		r = ready(t, v, s)
		expect(t, "Sweep", r.Sweep(), api.OK)
		unclaimedZeros(t, "Sweep", r.Meta(), restOf(t, s))
	}
}

// onSlab gives a slab with what a tape holds, and a plan.
func onSlab(t *testing.T, d *tape, plan ...api.Glitch) *slab.Slab {
	t.Helper()
	s, e := slab.New(d.unit, d.Count(), plan...)
	if e != api.OK {
		t.Fatalf("slab.New: error %d", e)
	}
	for at := range d.Count() {
		s.Poke(at, d.disk[int(at)*d.unit:int(at+1)*d.unit])
	}
	return s
}

// restOf gives all that a slab's medium holds.
func restOf(t *testing.T, s *slab.Slab) []byte {
	t.Helper()
	var out []byte
	for at := range s.Count() {
		b, e := s.Rest(at)
		if e != api.OK {
			t.Fatalf("Rest(%d): error %d", at, e)
		}
		out = append(out, b...)
	}
	return out
}
