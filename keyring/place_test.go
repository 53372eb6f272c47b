package keyring_test

import (
	"bytes"
	"fmt"
	"math"
	"math/rand"
	"slices"
	"testing"

	"coffer/api"
	"coffer/keyring"
)

// claimed tells of each step of the keyslots area whether it is in an area.
func claimed(m api.Meta) []bool {
	out := make([]bool, m.Shape.Keys/4096)
	areas := []api.Area{}
	for _, s := range m.Slots {
		areas = append(areas, s.Area)
	}
	if m.Rotation.On {
		areas = append(areas, m.Rotation.Area)
	}
	for _, a := range areas {
		for at := a.Offset; at < a.Offset+a.Size; at += 4096 {
			out[(at-int64(2*m.Shape.Head))/4096] = true
		}
	}
	return out
}

// modelFree is P10.15 a second time: each place is looked at, step by step.
func modelFree(m api.Meta, size int64) (int64, api.Errno) {
	steps := claimed(m)
	for at := range steps {
		end := int64(at) + size/4096
		if end <= int64(len(steps)) && !slices.Contains(steps[at:end], true) {
			return int64(2*m.Shape.Head) + int64(at)*4096, api.OK
		}
	}
	return -1, api.ErrFullRing
}

// strewn gives metadata of a volume with keyslots and perhaps a rotation at any places.
func strewn(t *testing.T, v *volume, r *rand.Rand) api.Meta {
	t.Helper()
	m := v.meta
	if r.Intn(2) == 0 {
		m = turning(t, v, api.Area{})
	}
	var areas []api.Area
	place := func(size int64) (api.Area, bool) {
		a := api.Area{Offset: 32768 + 4096*r.Int63n(int64(m.Shape.Keys)/4096), Size: size}
		if a.Offset+size > 32768+int64(m.Shape.Keys) || slices.ContainsFunc(areas, func(b api.Area) bool { return a.Offset < b.Offset+b.Size && b.Offset < a.Offset+a.Size }) {
			return api.Area{}, false
		}
		areas = append(areas, a)
		return a, true
	}
	return changed(m, func(m *api.Meta) {
		if m.Rotation.On {
			m.Rotation.Area, _ = place(4096 * (1 + r.Int63n(2)))
			if m.Rotation.Area.Size == 0 {
				m.Rotation.Area, _ = place(4096)
			}
		}
		s := m.Slots[0]
		m.Slots = nil
		for n := range 10 {
			s.Number, s.Stripes = n, 1+r.Intn(300)
			var fits bool
			if s.Area, fits = place(int64((32*s.Stripes + 4095) / 4096 * 4096)); fits {
				m.Slots = append(m.Slots, s)
			}
		}
	})
}

// P10.15: the least place, of metadata of all kinds and all sizes.
func TestFree(t *testing.T) {
	t.Parallel()
	v := newVolume(t, 512, format(func(f *api.Format) { f.Keys = 24 * 4096 }))
	r := rand.New(rand.NewSource(1))
	for i := range 300 {
		m := strewn(t, v, r)
		for size := int64(4096); size <= 25*4096; size += 4096 {
			got, e := keyring.Free(m, size)
			if want, f := modelFree(m, size); got != want || e != f {
				t.Errorf("%d: size %d: %d, error %d, not %d, error %d", i, size, got, e, want, f)
			}
		}
		for _, size := range []int64{1 << 40, math.MaxInt64 / 4096 * 4096} {
			if got, e := keyring.Free(m, size); got != -1 || e != api.ErrFullRing {
				t.Errorf("size %d: %d, error %d", size, got, e)
			}
		}
		for _, size := range []int64{math.MinInt64, -4096, -1, 0, 1, 512, 4095, 4097, math.MaxInt64} {
			if got, e := keyring.Free(m, size); got != -1 || e != api.ErrArg {
				t.Errorf("size %d: %d, error %d", size, got, e)
			}
		}
	}
	for name, do := range map[string]func(m *api.Meta){
		"nothing":      func(m *api.Meta) { *m = api.Meta{} },
		"no keyslot":   func(m *api.Meta) { m.Slots = nil },
		"no step":      func(m *api.Meta) { m.Slots[0].Area.Offset++ },
		"another size": func(m *api.Meta) { m.Slots[0].Area.Size = math.MaxInt64 },
		"no shape":     func(m *api.Meta) { m.Shape.Keys = math.MaxInt },
		"no segment":   func(m *api.Meta) { m.Segments = nil },
	} {
		for _, size := range []int64{4096, -1} {
			if got, e := keyring.Free(changed(v.meta, do), size); got != -1 || e != api.ErrArg {
				t.Errorf("%s: %d, error %d", name, got, e)
			}
		}
	}
}

// P10.7: Add takes the place that Free tells; a rotation's area is none.
func TestAddFree(t *testing.T) {
	t.Parallel()
	r := rand.New(rand.NewSource(2))
	for i := range 60 {
		v := newVolume(t, units[i%4], format(func(f *api.Format) { f.Keys = 24 * 4096 }))
		expect(t, "Commit", v.Commit(strewn(t, v, r)), api.OK)
		m := v.Meta()
		o := opts(func(o *api.SlotOpts) { o.Stripes = 1 + r.Intn(400) })
		at, e := keyring.Free(m, int64((32*o.Stripes+4095)/4096*4096))
		if e == api.OK {
			addAs(t, fmt.Sprint("strewn ", i), v, "p", 20, 20, at, o)
		} else if n, f := v.Add(v.spring, nil, -1, o); n != -1 || f != e {
			t.Errorf("strewn %d: %d, error %d", i, n, f)
		}
	}
}

// P10.13: zeros over each sector that lies in no area and is not zeros, by writes of those alone; then a Flush, whatever was found.
func TestSweep(t *testing.T) {
	t.Parallel()
	r := rand.New(rand.NewSource(3))
	for i := range 80 {
		unit := units[i%4]
		v := newVolume(t, unit, format(func(f *api.Format) { f.Keys = 24 * 4096 }))
		expect(t, "Commit", v.Commit(strewn(t, v, r)), api.OK)
		if i%3 == 0 {
			v.Lock()
		}
		for at := 32768; at < 32768+24*4096; at += unit {
			if r.Intn(3) == 0 {
				v.tape.disk[at+r.Intn(unit)] = 1
			}
		}
		sweepAs(t, fmt.Sprint("strewn ", i), v)
		sweepAs(t, fmt.Sprint("strewn ", i, ", again"), v)
	}
}

// sweepAs sweeps, and holds it against the model.
func sweepAs(t *testing.T, name string, v *volume) {
	t.Helper()
	m, unit := v.Meta(), v.tape.unit
	v.tape.asked = nil
	disk := bytes.Clone(v.tape.disk)
	zeros := make([]byte, unit)
	var order []event
	looked := map[uint64]bool{}
	for i, taken := range claimed(m) {
		for at := 2*m.Shape.Head + i*4096; at < 2*m.Shape.Head+(i+1)*4096; at += unit {
			looked[uint64(at/unit)] = !taken
			if !taken && !bytes.Equal(disk[at:at+unit], zeros) {
				order = append(order, v.tape.wrote(int64(at), int64(unit)))
				clear(disk[at : at+unit])
			}
		}
	}
	seq, locked := v.Seq(), v.Locked()
	expect(t, name, v.Sweep(), api.OK)
	v.tape.holds(name, disk, joined(append(order, flushed))...)
	stands(t, name, v.Ring, m, seq, locked, false)
	for _, e := range v.tape.asked {
		for at := e.at; e.kind == 'r' && at < e.at+uint64(e.n); at++ {
			if !looked[at] {
				t.Errorf("%s: sector %d is read", name, at)
			}
		}
	}
}

// P10.13: a keyslots area of more than 4096 sectors.
func TestSweepWide(t *testing.T) {
	t.Parallel()
	v := newVolume(t, 512, format(func(f *api.Format) { f.Keys = 4096*512 + 16384 }))
	for at := 32768 + 4096; at < 32768+4096*512+16384; at++ {
		v.tape.disk[at] = byte(at)
	}
	sweepAs(t, "wide", v)
	opens(t, "wide", v.Ring, "a", -1, 0, api.OK)
}

// P10.17: behind a Sweep what is unclaimed is zeros, and stays so behind every call that answers OK.
func TestSwept(t *testing.T) {
	v := newVolume(t, 1024, format(func(f *api.Format) { f.Keys = 1 << 16 }))
	two := opts(func(o *api.SlotOpts) { o.Stripes = 250 })
	_, err := v.Epoch(v.spring, 1, "null")
	expect(t, "Epoch", err, api.OK)
	for name, call := range steps(v, two) {
		expect(t, name, call(), api.OK)
		unclaimedZeros(t, name, v.Meta(), v.tape.disk)
	}
}

// steps gives calls, one behind the other.
func steps(v *volume, o api.SlotOpts) func(yield func(string, func() api.Errno) bool) {
	return func(yield func(string, func() api.Errno) bool) {
		add := func() api.Errno {
			_, e := v.Add(v.spring, []byte("p"), -1, o)
			return e
		}
		for _, x := range []struct {
			name string
			call func() api.Errno
		}{
			{"Sweep", v.Sweep}, {"Add", add}, {"Add", add},
			{"Change", func() api.Errno { return v.Change(v.spring, []byte("q"), 0, o) }},
			{"Kill", func() api.Errno { return v.Kill(1) }},
			{"Change", func() api.Errno { return v.Change(v.spring, []byte("q"), 2, opts()) }},
			{"Add", add},
			{"Note", func() api.Errno { return v.Note(api.Token{Kind: "k", Slots: []int{0}}) }},
			{"Prefer", func() api.Errno { return v.Prefer(0, 2) }},
			{"Kill", func() api.Errno { return v.Kill(0) }},
			{"Unnote", func() api.Errno { return v.Unnote(0) }},
			{"Lock", v.Lock},
		} {
			if !yield(x.name, x.call) {
				return
			}
		}
	}
}

// unclaimedZeros finds bytes in no area that are not zero.
func unclaimedZeros(t *testing.T, name string, m api.Meta, disk []byte) {
	t.Helper()
	for i, taken := range claimed(m) {
		at := 2*m.Shape.Head + i*4096
		if !taken && len(bytes.Trim(disk[at:at+4096], "\x00")) > 0 {
			t.Errorf("%s: bytes at %d are not zeros", name, at)
		}
	}
}
