package rekey_test

import (
	"fmt"
	"math"
	"slices"
	"testing"

	"coffer/api"
	"coffer/rekey"
	"coffer/slab"
	"coffer/tweak"
)

// run is a rotation of some kind.
type run struct {
	unit, n int
	mode    int
	back    bool
	hot     uint64
	workers int
}

// runs gives many kinds of them.
func runs() []run {
	var out []run
	for _, mode := range []int{1, 2} {
		for _, back := range []bool{false, true} {
			for _, n := range []int{1, 2, 5, 8} {
				for _, hot := range []uint64{1, 2, 3, 5, 8} {
					out = append(out, run{512, n, mode, back, hot, 1 + len(out)%16})
				}
			}
			for _, unit := range units {
				out = append(out, run{unit, 37, mode, back, 17, 4}, run{unit, 40, mode, back, 64, 16}, run{unit, 3, mode, back, 4096, 2})
			}
		}
	}
	return out
}

// area is where its journal lies: not at the beginning of the keyslots area, and with room behind it.
func (r run) area() api.Area {
	need := modelNeed(r.unit, r.mode, r.hot)
	return api.Area{Offset: 32768 + 4096, Size: need + 8192}
}

func (r run) begin(t *testing.T) api.Meta {
	t.Helper()
	m := begun(t, shaped(r.unit, int(r.area().Size)+8192, r.n), api.Turn{Mode: r.mode, Hot: r.hot, Back: r.back})
	m.Rotation.Area = r.area()
	return m
}

// P13.5: each step of each kind of rotation: the operations, the commits and their order, and what is answered.
func TestStep(t *testing.T) {
	t.Parallel()
	from, to := cipher(t, "aes128-cbc-essiv:sha256", 1), cipher(t, "aes256-xts-plain64", 2)
	for _, r := range runs() {
		m := r.begin(t)
		d := &tape{Slab: laid(t, m, from, to)}
		w := d.work(from, to, r.workers)
		for i := 0; m.Rotation.On; i++ {
			name := fmt.Sprintf("%v: step %d", r, i)
			want, meta := modelStep(t, d.Slab, w, m)
			d.events = nil
			got, over, e := rekey.Step(w, m)
			expect(t, name+": error", e, api.OK)
			expect(t, name+": over", over, !meta.Rotation.On)
			compare(t, name, r.unit, d.events, want)
			if !same(got, meta) {
				t.Fatalf("%s: %v, not %v", name, got, meta)
			}
			readable(t, name, d.Slab, got, from, to)
			m = got
		}
		if d.most > 4096 {
			t.Errorf("%v: a call of %d sectors", r, d.most)
		}
	}
}

// P13.5, P13.6: the first error of the device, or of Commit, ends the call, and nothing behind it is done; that of each event.
func TestStepFails(t *testing.T) {
	from, to := cipher(t, "null", 1), cipher(t, "aes128-ecb", 2)
	for _, mode := range []int{1, 2} {
		for _, done := range []uint64{0, 2, 4, 5} {
			r := run{512, 5, mode, done == 2, 2, 3}
			m := at(r.begin(t), done)
			base := laid(t, m, from, to)
			good := &tape{Slab: base.Copy()}
			rekey.Step(good.work(from, to, 3), m)
			if want := 3 + 3*min(1, 5-int(done)); len(good.events) != want {
				t.Fatalf("%d events, not %d", len(good.events), want)
			}
			for stop := 1; stop <= len(good.events); stop++ {
				for _, why := range []api.Errno{api.ErrDevice, api.ErrOff, api.ErrPanic, -3, 1 << 40} {
					d := &tape{Slab: base.Copy(), stop: stop, why: why}
					got, over, e := rekey.Step(d.work(from, to, 3), m)
					name := fmt.Sprintf("mode %d, Done %d: event %d", mode, done, stop)
					expect(t, name+": error", e, why)
					expect(t, name+": over", over, false)
					if !same(got, api.Meta{}) {
						t.Errorf("%s: %v beside an error", name, got)
					}
					if !slices.Equal(d.events, good.events[:stop]) {
						t.Errorf("%s: %v", name, d.events)
					}
				}
			}
		}
	}
}

// P13.5: an error of layer 3 comes behind the reading, and ahead of the first write.
func TestStepCipherFails(t *testing.T) {
	good := cipher(t, "aes128-ecb", 2)
	for _, mode := range []int{1, 2} {
		for name, c := range map[string][2]*tweak.Cipher{"from": {wiped(t), good}, "to": {good, wiped(t)}, "both": {wiped(t), wiped(t)}} {
			m := run{512, 5, mode, false, 2, 3}.begin(t)
			d := &tape{Slab: laid(t, m, good, good)}
			got, over, e := rekey.Step(d.work(c[0], c[1], 5), m)
			expect(t, name, e, api.ErrWiped)
			expect(t, name+": over", over, false)
			if !same(got, api.Meta{}) || len(d.events) != 1 || d.events[0].what != "read" {
				t.Errorf("%s: %v, events %v", name, got, d.events)
			}
			m = at(m, 5) // at the end no cipher is asked
			d = &tape{Slab: laid(t, at(m, 0), good, good)}
			_, over, e = rekey.Step(d.work(c[0], c[1], 5), m)
			expect(t, name+": the end", e, api.OK)
			expect(t, name+": the end: over", over, true)
		}
		m := run{512, 5, mode, false, 2, 3}.begin(t)
		d := &tape{Slab: laid(t, m, good, good)}
		_, _, e := rekey.Step(d.work(new(tweak.Cipher), good, 5), m)
		expect(t, "a cipher that nobody made", e, api.ErrNil)
		expect(t, "a cipher that nobody made: events", len(d.events), 1)
	}
}

// stepping is what Step and Recover are called with.
type stepping struct {
	w rekey.Work
	m api.Meta
}

// notWorked lists what both refuse.
func notWorked(ops *int) []wrong[stepping] {
	var out []wrong[stepping]
	add := func(rank int, e api.Errno, name string, do func(a *stepping)) {
		out = append(out, wrong[stepping]{name, rank, e, do})
	}
	add(1, api.ErrNil, "no device", func(a *stepping) { a.w.Device = nil })
	add(1, api.ErrNil, "no From", func(a *stepping) { a.w.From = nil })
	add(1, api.ErrNil, "no To", func(a *stepping) { a.w.To = nil })
	add(1, api.ErrNil, "no Commit", func(a *stepping) { a.w.Commit = nil })
	for _, n := range []int{math.MinInt, -1, 0, 17, 18, math.MaxInt} {
		add(2, api.ErrArg, fmt.Sprint(n, " workers"), func(a *stepping) { a.w.Workers = n })
	}
	add(3, api.ErrTurnOff, "a rotation that is not on", func(a *stepping) { a.m.Rotation.On = false })
	add(3, api.ErrTurnOff, "no rotation", func(a *stepping) { a.m.Rotation = api.Rotation{} })
	add(5, api.ErrArg, "a shape that may not be", func(a *stepping) { a.m.Shape.Head = 16385 })
	add(5, api.ErrArg, "a mode that is none", func(a *stepping) { a.m.Rotation.Mode = 0 })
	add(5, api.ErrArg, "Hot 0", func(a *stepping) { a.m.Rotation.Hot = 0 })
	add(5, api.ErrArg, "Done too high", func(a *stepping) { a.m.Rotation.Done = 6 })
	add(5, api.ErrArg, "no area", func(a *stepping) { a.m.Rotation.Area = api.Area{} })
	add(5, api.ErrArg, "no epochs", func(a *stepping) { a.m.Epochs = nil })
	add(5, api.ErrArg, "no segments", func(a *stepping) { a.m.Segments = nil })
	add(5, api.ErrArg, "From above To", func(a *stepping) { a.m.Rotation.From = 9 })
	add(5, api.ErrArg, "Count", func(a *stepping) { a.m.Rotation.Count = 1 })
	add(5, api.ErrArg, "Sum", func(a *stepping) { a.m.Rotation.Sum = "x" })
	add(6, api.ErrArg, "a device of another unit", func(a *stepping) {
		if a.w.Device != nil {
			a.w.Device = idle{1024, a.w.Device.Count(), ops}
		}
	})
	add(6, api.ErrArg, "a device with a sector more", func(a *stepping) {
		if a.w.Device != nil {
			a.w.Device = idle{a.w.Device.Unit(), a.m.Shape.Count + 1, ops}
		}
	})
	add(6, api.ErrArg, "a device with a sector less", func(a *stepping) {
		if a.w.Device != nil {
			a.w.Device = idle{a.w.Device.Unit(), a.m.Shape.Count - 1, ops}
		}
	})
	add(6, api.ErrArg, "a slab that is nil", func(a *stepping) { a.w.Device = (*slab.Slab)(nil) })
	return out
}

// refuse holds Step or Recover against each two of the things that it refuses: nothing is asked of the device or of Commit.
func refuse(t *testing.T, all []wrong[stepping], ops *int, base api.Meta, ask func(a stepping) (api.Meta, bool, api.Errno)) {
	t.Helper()
	c := cipher(t, "null", 0)
	pairs(all, func(name string, e api.Errno, do ...func(a *stepping)) {
		*ops = 0
		a := stepping{m: tidy(base)}
		a.w = rekey.Work{Device: idle{512, base.Shape.Count, ops}, From: c, To: c, Workers: 16, Commit: func(api.Meta) api.Errno { *ops++; return api.OK }}
		for _, change := range do {
			change(&a)
		}
		got, over, why := ask(a)
		expect(t, name, why, e)
		expect(t, name+": over", over, false)
		expect(t, name+": asked", *ops, 0)
		if !same(got, api.Meta{}) {
			t.Errorf("%s: %v beside an error", name, got)
		}
	})
}

// P13.5: its refusals in their order, each two of them, with sectors to be moved and at the end.
func TestStepRefused(t *testing.T) {
	for _, done := range []uint64{0, 4, 5} {
		ops := 0
		all := append(notWorked(&ops),
			wrong[stepping]{"a step in the midst", 4, api.ErrTurnOn, func(a *stepping) { a.m.Rotation.Active = true }},
			wrong[stepping]{"a whole step in the midst", 4, api.ErrTurnOn, func(a *stepping) {
				a.m.Rotation.Active, a.m.Rotation.Count, a.m.Rotation.Sum = true, 2, string(make([]byte, 32))
			}})
		base := at(begun(t, small(5), api.Turn{Mode: api.ByJournal, Hot: 2}), done)
		refuse(t, all, &ops, base, func(a stepping) (api.Meta, bool, api.Errno) { return rekey.Step(a.w, a.m) })
	}
}

// P13.6: likewise those of Recover.
func TestRecoverRefused(t *testing.T) {
	for _, done := range []uint64{0, 4} {
		ops := 0
		all := append(notWorked(&ops),
			wrong[stepping]{"no step in the midst", 3, api.ErrTurnOff, func(a *stepping) { a.m.Rotation.Active = false }},
			wrong[stepping]{"no step in the midst, and nothing of one", 3, api.ErrTurnOff, func(a *stepping) {
				a.m.Rotation.Active, a.m.Rotation.Count, a.m.Rotation.Sum = false, 0, ""
			}},
			wrong[stepping]{"Count too high", 5, api.ErrArg, func(a *stepping) { a.m.Rotation.Count = 3 }},
			wrong[stepping]{"a longer sum", 5, api.ErrArg, func(a *stepping) { a.m.Rotation.Sum += "x" }})
		for i, v := range all {
			if v.name == "Count" { // one sector is right where one is left
				all[i].do = func(a *stepping) { a.m.Rotation.Count = 0 }
			}
		}
		base := active(at(begun(t, small(5), api.Turn{Mode: api.ByJournal, Hot: 2}), done), nil)
		refuse(t, all, &ops, base, func(a stepping) (api.Meta, bool, api.Errno) {
			m, e := rekey.Recover(a.w, a.m)
			return m, false, e
		})
	}
}

// P13.9: so many steps, of each kind; Done rises by each but the last one, behind which the area is zeros on the medium.
func TestHowManySteps(t *testing.T) {
	t.Parallel()
	from, to := cipher(t, "aes192-lrw-benbi", 1), cipher(t, "null", 2)
	for _, r := range runs() {
		m := r.begin(t)
		d := &tape{Slab: laid(t, m, from, to)}
		around := holds(d.Slab, 0, m.Shape.Count-uint64(r.n))
		steps, done := 0, uint64(0)
		for over := false; !over; steps++ {
			if steps > r.n+1 {
				t.Fatalf("%v: no end", r)
			}
			var e api.Errno
			m, over, e = rekey.Step(d.work(from, to, r.workers), m)
			if e != api.OK {
				t.Fatalf("%v: error %d", r, e)
			}
			if !over {
				expect(t, fmt.Sprint(r, ": Done"), m.Rotation.Done, min(uint64(r.n), done+r.hot))
				done = m.Rotation.Done
			}
		}
		expect(t, fmt.Sprint(r, ": steps"), steps, int(math.Ceil(float64(r.n)/float64(r.hot)))+1)
		clear(around[r.area().Offset : r.area().Offset+r.area().Size])
		for i := range m.Shape.Count - uint64(r.n) {
			b, _ := d.Rest(i)
			if string(b) != string(around[i*uint64(r.unit):(i+1)*uint64(r.unit)]) {
				t.Fatalf("%v: sector %d of the device", r, i)
			}
		}
		if len(d.Pending()) != 0 {
			t.Errorf("%v: not all is durable", r)
		}
	}
}

// P13.10: whatever the kind, the opened data are the same in between, and in the end the sealed ones are too.
func TestNoDifference(t *testing.T) {
	t.Parallel()
	from, to := cipher(t, "aes256-hctr2-plain64", 1), cipher(t, "aes128-cbc-tcw", 2)
	ends := map[[2]int]string{}
	for _, r := range append(runs(), run{512, 37, 1, false, 36, 1}, run{512, 37, 2, true, 1, 16}, run{512, 37, 1, true, 37, 7}) {
		m := r.begin(t)
		d := &tape{Slab: laid(t, m, from, to)}
		for m.Rotation.On {
			readable(t, fmt.Sprint(r), d.Slab, m, from, to)
			var e api.Errno
			if m, _, e = rekey.Step(d.work(from, to, r.workers), m); e != api.OK {
				t.Fatalf("%v: error %d", r, e)
			}
		}
		kind, end := [2]int{r.unit, r.n}, string(holds(d.Slab, m.Shape.Count-uint64(r.n), uint64(r.n)))
		if first, there := ends[kind]; there && first != end {
			t.Errorf("%v: another end", r)
		}
		ends[kind] = end
	}
}

// P13.5: as many sectors in a hotzone as may be, with an area of more than 4096 sectors.
func TestGreatest(t *testing.T) {
	t.Parallel()
	from, to := cipher(t, "null", 1), cipher(t, "aes128-ecb", 2)
	for _, r := range []run{{512, 5000, 1, false, 4096, 16}, {512, 5000, 2, true, 4096, 5}, {4096, 4097, 1, true, 4096, 16}} {
		m := r.begin(t)
		m.Shape.Keys += 9000 * r.unit / 4096 * 4096
		m.Shape.Count += uint64(9000 * r.unit / 4096 * 4096 / r.unit)
		m.Rotation.Area.Size += int64(9000 * r.unit / 4096 * 4096)
		d := &tape{Slab: laid(t, m, from, to)}
		w := d.work(from, to, r.workers)
		for i := range 3 {
			name := fmt.Sprintf("%v: step %d", r, i)
			want, meta := modelStep(t, d.Slab, w, m)
			d.events = nil
			got, over, e := rekey.Step(w, m)
			expect(t, name+": error", e, api.OK)
			expect(t, name+": over", over, i == 2)
			compare(t, name, r.unit, d.events, want)
			if !same(got, meta) {
				t.Fatalf("%s: %v, not %v", name, got, meta)
			}
			m = got
		}
		readable(t, fmt.Sprint(r), d.Slab, m, from, to)
		if d.most > 4096 {
			t.Errorf("%v: a call of %d sectors", r, d.most)
		}
	}
}

// P13.5: the last sectors of a device that has as many as may be: their numbers are whole there.
func TestFar(t *testing.T) {
	from, to := cipher(t, "aes128-xts-plain64", 1), cipher(t, "aes128-cbc-benbi", 2)
	for _, mode := range []int{1, 2} {
		for _, back := range []bool{false, true} {
			m := begun(t, api.Shape{Unit: 512, Head: 16384, Keys: 4096, Count: 1 << 32}, api.Turn{Mode: mode, Hot: 8, Back: back})
			n := uint64(1<<32 - 72)
			m = at(m, n-5)
			if back {
				m = at(m, 1)
			}
			s, _ := slab.New(512, 1<<32)
			place, first, count := zone(m)
			for i := range count {
				b, _ := from.Seal(first+i, plain(512, first+i))
				s.Poke(place+i, b)
			}
			d := &tape{Slab: s}
			w := d.work(from, to, 3)
			want, meta := modelStep(t, s, w, m)
			got, over, e := rekey.Step(w, m)
			expect(t, "error", e, api.OK)
			expect(t, "over", over, false)
			compare(t, "far", 512, d.events, want)
			if !same(got, meta) {
				t.Errorf("%v, not %v", got, meta)
			}
			for i := range count {
				b, _ := s.Peek(place + i)
				if p, _ := to.Open(first+i, b); string(p) != string(plain(512, first+i)) {
					t.Errorf("sector %d", first+i)
				}
			}
		}
	}
}
