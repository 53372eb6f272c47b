package rekey_test

import (
	"fmt"
	"slices"
	"testing"

	"coffer/api"
	"coffer/rekey"
	"coffer/slab"
	"coffer/tweak"
)

// broken gives a device in the midst of a step: its journal is there, and of the hotzone the sectors of a set are new already.
func broken(t *testing.T, m api.Meta, from, to *tweak.Cipher, isNew func(i uint64) bool) (*slab.Slab, api.Meta) {
	t.Helper()
	s := laid(t, m, from, to)
	unit := m.Shape.Unit
	place, first, count := zone(m)
	old := holds(s, place, count)
	journal, _ := modelJournal(unit, m.Rotation.Mode, old)
	for i := 0; i < len(journal); i += unit {
		s.Poke(uint64(m.Rotation.Area.Offset)/uint64(unit)+uint64(i/unit), journal[i:i+unit])
	}
	sealed := moved(t, rekey.Work{From: from, To: to}, unit, first, old)
	for i := range count {
		if isNew(i) {
			s.Poke(place+i, sealed[i*uint64(unit):(i+1)*uint64(unit)])
		}
	}
	return s, active(m, old)
}

// recovered holds a recovery against the model.
func recovered(t *testing.T, name string, d *tape, m api.Meta, from, to *tweak.Cipher, workers int) {
	t.Helper()
	w := d.work(from, to, workers)
	want, meta := modelRecover(t, d.Slab, w, m)
	got, e := rekey.Recover(w, m)
	expect(t, name+": error", e, api.OK)
	compare(t, name, m.Shape.Unit, d.events, want)
	if !same(got, meta) {
		t.Fatalf("%s: %v, not %v", name, got, meta)
	}
	readable(t, name, d.Slab, got, from, to)
	if d.most > 4096 {
		t.Errorf("%s: a call of %d sectors", name, d.most)
	}
}

// P13.6: any sectors of the hotzone may be new already, at each place.
func TestRecover(t *testing.T) {
	t.Parallel()
	from, to := cipher(t, "aes128-cbc-essiv:sha256", 1), cipher(t, "aes256-xts-plain64", 2)
	for _, mode := range []int{1, 2} {
		for _, back := range []bool{false, true} {
			for done := uint64(0); done < 7; done++ {
				r := run{512, 7, mode, back, 4, 3}
				m := at(r.begin(t), done)
				_, _, count := zone(m)
				for set := range 1 << count {
					s, midst := broken(t, m, from, to, func(i uint64) bool { return set>>i&1 == 1 })
					name := fmt.Sprintf("%v, Done %d, set %b", r, done, set)
					recovered(t, name, &tape{Slab: s}, midst, from, to, 1+set%16)
				}
			}
		}
	}
}

// P13.6: of each unit, with journals of several sectors, in part of a last one.
func TestRecoverUnits(t *testing.T) {
	t.Parallel()
	from, to := cipher(t, "aes256-cbc-plain64", 1), cipher(t, "aes192-cbc-elephant", 2)
	for _, r := range runs() {
		if r.n < 10 && r.unit == 512 {
			continue
		}
		for k, isNew := range []func(i uint64) bool{
			func(i uint64) bool { return false },
			func(i uint64) bool { return true },
			func(i uint64) bool { return i%2 == 1 },
			func(i uint64) bool { return i%5 < 2 },
		} {
			m := at(r.begin(t), uint64(r.n)/2)
			s, midst := broken(t, m, from, to, isNew)
			recovered(t, fmt.Sprintf("%v, set %d", r, k), &tape{Slab: s}, midst, from, to, r.workers)
		}
	}
}

// P13.6: as many sectors as may be.
func TestRecoverGreatest(t *testing.T) {
	t.Parallel()
	from, to := cipher(t, "null", 1), cipher(t, "aes128-ecb", 2)
	for _, r := range []run{{512, 5000, 1, false, 4096, 16}, {512, 5000, 2, true, 4096, 5}} {
		s, midst := broken(t, r.begin(t), from, to, func(i uint64) bool { return i%3 > 0 })
		recovered(t, fmt.Sprint(r), &tape{Slab: s}, midst, from, to, r.workers)
	}
}

// P13.6: ByDigests a sector that is neither old nor new stays, and so does a new one that equals the old one of another place; ByJournal whatever the hotzone holds is written over.
func TestRecoverOthers(t *testing.T) {
	from, to := cipher(t, "null", 1), cipher(t, "aes128-ecb", 2)
	for _, mode := range []int{1, 2} {
		m := run{512, 5, mode, false, 4, 3}.begin(t)
		s, midst := broken(t, m, from, to, func(i uint64) bool { return false })
		place, _, _ := zone(m)
		torn := make([]byte, 512)
		other, _ := s.Peek(place + 3)
		s.Poke(place+1, torn)
		s.Poke(place+2, other)
		d := &tape{Slab: s}
		w := d.work(from, to, 2)
		want, meta := modelRecover(t, s, w, midst)
		got, e := rekey.Recover(w, midst)
		expect(t, "error", e, api.OK)
		compare(t, fmt.Sprint("mode ", mode), 512, d.events, want)
		if !same(got, meta) {
			t.Errorf("mode %d: %v, not %v", mode, got, meta)
		}
		one, _ := s.Peek(place + 1)
		two, _ := s.Peek(place + 2)
		if stays := string(one) == string(torn) && string(two) == string(other); stays != (mode == 2) {
			t.Errorf("mode %d: they stay: %v", mode, stays)
		}
	}
}

// P13.6: each bit of the journal's bytes counts, and of the sum; what lies behind those bytes does not. Nothing but the journal is read then, and nothing is written.
func TestWrongJournal(t *testing.T) {
	t.Parallel()
	from, to := cipher(t, "null", 1), cipher(t, "aes128-ecb", 2)
	for _, mode := range []int{1, 2} {
		r := run{512, 5, mode, false, 3, 3}
		base, midst := broken(t, r.begin(t), from, to, func(i uint64) bool { return i == 1 })
		long := map[int]int{1: 3 * 512, 2: 3 * 32}[mode]
		start := uint64(midst.Rotation.Area.Offset) / 512
		for i := 0; i < 4*512; i += 7 {
			s := base.Copy()
			b, _ := s.Peek(start + uint64(i/512))
			b[i%512] ^= 1 << (i % 8)
			s.Poke(start+uint64(i/512), b)
			d := &tape{Slab: s}
			got, e := rekey.Recover(d.work(from, to, 3), midst)
			name := fmt.Sprintf("mode %d: byte %d", mode, i)
			if i >= long {
				expect(t, name, e, api.OK)
				continue
			}
			expect(t, name, e, api.ErrJournal)
			if !same(got, api.Meta{}) {
				t.Errorf("%s: %v beside an error", name, got)
			}
			for _, v := range single(512, d.events) {
				if v.what != "read" || v.at < start || v.at >= start+3 {
					t.Errorf("%s: %v", name, v)
				}
			}
		}
		for i := range 32 {
			m := tidy(midst)
			sum := []byte(m.Rotation.Sum)
			sum[i] ^= 1 << (i % 8)
			m.Rotation.Sum = string(sum)
			d := &tape{Slab: base.Copy()}
			_, e := rekey.Recover(d.work(from, to, 3), m)
			expect(t, fmt.Sprintf("mode %d: byte %d of the sum", mode, i), e, api.ErrJournal)
		}
	}
}

// P13.6: a wrong journal is told ahead of what a cipher refuses; that comes ahead of the first write. Where no sector is old no cipher is asked.
func TestRecoverCipherFails(t *testing.T) {
	good := cipher(t, "aes128-ecb", 2)
	for _, mode := range []int{1, 2} {
		for name, c := range map[string][2]*tweak.Cipher{"from": {wiped(t), good}, "to": {good, wiped(t)}} {
			s, midst := broken(t, run{512, 5, mode, true, 3, 3}.begin(t), good, cipher(t, "null", 0), func(i uint64) bool { return i == 1 })
			d := &tape{Slab: s}
			got, e := rekey.Recover(d.work(c[0], c[1], 5), midst)
			expect(t, name, e, api.ErrWiped)
			if !same(got, api.Meta{}) {
				t.Errorf("%s: %v beside an error", name, got)
			}
			if slices.ContainsFunc(d.events, func(v event) bool { return v.what != "read" }) {
				t.Errorf("%s: %v", name, d.events)
			}
			midst.Rotation.Sum = string(make([]byte, 32))
			_, e = rekey.Recover(d.work(c[0], c[1], 5), midst)
			expect(t, name+", a wrong journal", e, api.ErrJournal)
		}
	}
	null := cipher(t, "null", 0)
	s, midst := broken(t, run{512, 5, 2, true, 3, 3}.begin(t), good, null, func(i uint64) bool { return true })
	d := &tape{Slab: s}
	_, e := rekey.Recover(d.work(wiped(t), null, 5), midst)
	expect(t, "no sector is old", e, api.OK)
}

// P13.6: the first error of the device, or of Commit, ends the call.
func TestRecoverFails(t *testing.T) {
	from, to := cipher(t, "null", 1), cipher(t, "aes128-ecb", 2)
	for _, mode := range []int{1, 2} {
		for _, back := range []bool{false, true} {
			base, midst := broken(t, run{512, 9, mode, back, 5, 3}.begin(t), from, to, func(i uint64) bool { return i == 1 })
			good := &tape{Slab: base.Copy()}
			rekey.Recover(good.work(from, to, 3), midst)
			if len(good.events) < 4 {
				t.Fatalf("%d events", len(good.events))
			}
			for stop := 1; stop <= len(good.events); stop++ {
				for _, why := range []api.Errno{api.ErrDevice, api.ErrJournal, -1} {
					d := &tape{Slab: base.Copy(), stop: stop, why: why}
					got, e := rekey.Recover(d.work(from, to, 3), midst)
					name := fmt.Sprintf("mode %d: event %d", mode, stop)
					expect(t, name, e, why)
					if !same(got, api.Meta{}) {
						t.Errorf("%s: %v beside an error", name, got)
					}
					if !slices.Equal(d.events, good.events[:stop]) {
						t.Errorf("%s: %v", name, d.events)
					}
				}
			}
		}
	}
}
