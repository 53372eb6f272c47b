package volume_test

import (
	"bytes"
	"fmt"
	"math"
	"slices"
	"testing"

	"coffer/api"
	"coffer/keyring"
	"coffer/rekey"
	"coffer/slab"
	"coffer/spring"
	"coffer/volume"
)

// wrong is a thing that a call refuses. The rank is its place in the order in which the chapter names them.
type wrong[A any] struct {
	name string
	rank int
	e    api.Errno
	do   func(a *A)
}

// pairs calls with each thing alone, and with each two of them: the one of the lower rank is told. It is done last, so that it stands where both are of one field.
func pairs[A any](all []wrong[A], ask func(name string, e api.Errno, do ...func(a *A))) {
	for i, a := range all {
		ask(a.name, a.e, a.do)
		for _, b := range all[i+1:] {
			first, last := b, a
			if b.rank < a.rank {
				first, last = a, b
			}
			ask(a.name+"; "+b.name, last.e, first.do, last.do)
		}
	}
}

// P14.1: Format is layer 10's Make, on the device and of the spring.
func TestFormat(t *testing.T) {
	for _, unit := range units {
		some := make([]byte, 2*16384+keys+many*unit)
		for i := range some {
			some[i] = byte(i*7 + i/256)
		}
		one, two := &tape{t: t, unit: unit, disk: some}, &tape{t: t, unit: unit, disk: bytes.Clone(some)}
		s, other := fresh(t, 100), fresh(t, 100)
		_, e := keyring.Make(two, other, format(), []byte("a"))
		must(t, "Make", e)
		expect(t, "Format", volume.Format(one, s, format(), []byte("a")), api.OK)
		if !bytes.Equal(one.disk, two.disk) || !slices.Equal(one.asked, two.asked) || !alike(s, other) {
			t.Errorf("unit %d: not what Make does", unit)
		}
		v, e := volume.Open(one, []byte("a"), -1, 1)
		expect(t, "Open", e, api.OK)
		stands(t, "Open", v, (&stage{t: t, master: mustMaster(t, v)}).meta(one), api.Opened, 0)
	}
}

func mustMaster(t *testing.T, v *volume.Volume) []byte {
	t.Helper()
	master, e := v.Master()
	must(t, "Master", e)
	return master
}

// P14.1: the data stay as they are but for layer 8's places, which become zeros.
func TestFormatData(t *testing.T) {
	s, e := slab.New(512, 8192+100)
	must(t, "slab.New", e)
	place := uint64(0x40000 / 512) // where the secondary copy of a larger header would be
	for _, at := range []uint64{first(512), place - 1, place, 8192 + 99} {
		must(t, "Poke", s.Poke(at, bytes.Repeat([]byte("LUKS"), 128)))
	}
	must(t, "Format", volume.Format(s, fresh(t, 100), format(), nil))
	for _, x := range []struct {
		at   uint64
		zero bool
	}{{first(512), false}, {place - 1, false}, {place, true}, {8192 + 99, false}} {
		b, _ := s.Peek(x.at)
		if (len(bytes.Trim(b, "\x00")) == 0) != x.zero {
			t.Errorf("sector %d: zeros: %v", x.at, !x.zero)
		}
	}
}

// formatting is what Format is called with.
type formatting struct {
	device api.Device
	spring *spring.Spring
	f      api.Format
	pass   []byte
}

// P14.1: what Make refuses, Format does, with its error.
func TestFormatRefused(t *testing.T) {
	disk := make([]byte, 2*16384+keys+many*512)
	all := []wrong[formatting]{
		{"no device", 1, api.ErrNil, func(a *formatting) { a.device = nil }},
		{"no spring", 1, api.ErrNil, func(a *formatting) { a.spring = nil }},
		{"Head", 2, api.ErrArg, func(a *formatting) { a.f.Head = 5 }},
		{"cipher", 2, api.ErrArg, func(a *formatting) { a.f.Cipher = "rot13" }},
		{"pass", 3, api.ErrLong, func(a *formatting) { a.pass = make([]byte, 513) }},
		{"stripes", 4, api.ErrFullRing, func(a *formatting) { a.f.Slot.Stripes = 4000 }},
		{"thirst", 5, api.ErrThirst, func(a *formatting) {
			if a.spring != nil {
				a.spring = fresh(t, 3)
			}
		}},
	}
	pairs(all, func(name string, e api.Errno, do ...func(a *formatting)) {
		d := &tape{t: t, unit: 512, disk: disk}
		a := formatting{d, fresh(t, 100), format(), nil}
		for _, x := range do {
			x(&a)
		}
		expect(t, name, volume.Format(a.device, a.spring, a.f, a.pass), e)
		if len(d.asked) != 0 {
			t.Errorf("%s: asked %v", name, d.asked)
		}
	})
	d := &tape{t: t, unit: 512, disk: disk}
	d.plan(3, 999, 0)
	expect(t, "the device", volume.Format(d, fresh(t, 100), format(), nil), 999)
}

// byLayers does what P14.2 says, by the calls of the layers below: the error, and the ring behind it.
func byLayers(st *stage, d api.Device, open func(r *keyring.Ring) (int, api.Errno), workers int) (*keyring.Ring, int, api.Errno) {
	r, e := keyring.Load(d)
	if e != api.OK {
		return nil, 0, e
	}
	slot, e := open(r)
	if e != api.OK {
		return nil, 0, e
	}
	m := r.Meta()
	for _, p := range m.Epochs {
		if _, e := r.Key(p.Number); e != api.OK {
			return nil, 0, e
		}
	}
	if m.Rotation.Active {
		if _, e := rekey.Recover(workOf(st.t, r, workers), m); e != api.OK {
			return nil, 0, e
		}
	}
	if e := r.Sweep(); e != api.OK {
		return nil, 0, e
	}
	return r, slot, api.OK
}

// door is a way to open a volume: by package volume, and by the layers below.
type door struct {
	name   string
	volume func(d api.Device, workers int) (*volume.Volume, api.Errno)
	layers func(r *keyring.Ring) (int, api.Errno)
}

func byPass(pass string, slot int) door {
	return door{
		fmt.Sprintf("Open(%.9q, %d)", pass, slot),
		func(d api.Device, workers int) (*volume.Volume, api.Errno) {
			return volume.Open(d, []byte(pass), slot, workers)
		},
		func(r *keyring.Ring) (int, api.Errno) { return r.Open([]byte(pass), slot) },
	}
}

func byMaster(master []byte) door {
	return door{
		fmt.Sprintf("Reopen(%d bytes)", len(master)),
		func(d api.Device, workers int) (*volume.Volume, api.Errno) { return volume.Reopen(d, master, workers) },
		func(r *keyring.Ring) (int, api.Errno) { return -1, r.Unlock(master) },
	}
}

// doors gives ways that open, and ways that do not.
func doors(master []byte) []door {
	return []door{
		byPass("a", -1), byPass("b", -1), byPass("a", 0), byPass("b", 3), byPass("a", 3), byPass("c", -1), byPass("a", 5), byPass("a", 32), byPass("a", math.MinInt), byPass(string(make([]byte, 513)), -5),
		byMaster(master), byMaster(nil), byMaster(append(bytes.Clone(master), 0)), byMaster(make([]byte, 32)),
	}
}

// stages gives volumes that stand, whose rotation is on, and whose rotation was cut short within a step.
func stages(t *testing.T, unit int) map[string]*stage {
	st := newStage(t, unit, "aes128-xts-plain64")
	out := map[string]*stage{"still": st}
	for mode := 1; mode <= 2; mode++ {
		for _, back := range []bool{false, true} {
			turn := api.Turn{Cipher: "aes128-cbc-essiv:sha256", Mode: mode, Back: back, Hot: 4}
			for _, steps := range []int{0, 3, 6} { // six: all is moved
				out[fmt.Sprint("on: ", mode, back, steps)] = st.turning(turn, steps, false)
			}
			for _, steps := range []int{0, 5} {
				out[fmt.Sprint("midst: ", mode, back, steps)] = st.turning(turn, steps, true)
			}
		}
	}
	return out
}

// P14.2: Open and Reopen do what the layers below do one behind the other: the same answers, writes and bytes; what a crash left of a step is done, what is unclaimed is zeros.
func TestOpen(t *testing.T) {
	for i, unit := range units {
		for name, st := range stages(t, unit) {
			for k := range 4096 {
				st.tape.disk[2*16384+keys-4096+k] = byte(k / 7) // in no area
			}
			for _, x := range doors(st.master) {
				name := fmt.Sprintf("unit %d, %s, %s", unit, name, x.name)
				one, two := st.tape.again(), st.tape.again()
				workers := []int{1, 16, 3, 7}[i]
				r, slot, e := byLayers(st, two, x.layers, workers)
				v, got := x.volume(one, workers)
				expect(t, name, got, e)
				if !slices.Equal(one.changes(), two.changes()) || !bytes.Equal(one.disk, two.disk) {
					t.Errorf("%s: %v, not %v", name, one.changes(), two.changes())
				}
				if e != api.OK {
					if v != nil {
						t.Errorf("%s: a volume beside an error", name)
					}
					continue
				}
				m := r.Meta()
				stands(t, name, v, m, api.Opened, slot)
				if m.Rotation.Active {
					t.Errorf("%s: a step is in the midst", name)
				}
				holds(t, name, v, contents(unit, 0, many, 0))
				if !bytes.Equal(mustMaster(t, v), st.master) {
					t.Errorf("%s: another master key", name)
				}
				if end := 2*16384 + keys; len(bytes.Trim(one.disk[end-4096:end], "\x00")) > 0 {
					t.Errorf("%s: what is unclaimed is not zeros", name)
				}
			}
		}
	}
}

// P14.2: the device answers an error at each operation of an Open: it is answered, no volume beside it, and nothing is asked of the device any more. The next Open does what was left.
func TestOpenFails(t *testing.T) {
	for name, st := range stages(t, 512) {
		for k := range 4096 {
			st.tape.disk[2*16384+keys-4096+k] = byte(k / 7)
		}
		whole := st.tape.again()
		st.open(whole)
		for _, x := range []door{byPass("a", 0), byMaster(st.master)} {
			for op := 1; ; op++ {
				d := st.tape.again()
				d.plan(op, 999, op%3)
				v, e := x.volume(d, 2)
				if e == api.OK {
					break
				}
				name := fmt.Sprintf("%s, %s, operation %d", name, x.name, op)
				expect(t, name, e, 999)
				if v != nil || len(d.asked) != op {
					t.Errorf("%s: a volume, or %d operations", name, len(d.asked))
				}
				d.plan(0, 0, 0)
				v = st.open(d)
				holds(t, name, v, contents(512, 0, many, 0))
				stands(t, name, v, st.meta(whole), api.Opened, 0)
			}
		}
	}
}

// opening is what Open works on: a device, and the arguments.
type opening struct {
	device  api.Device
	pass    []byte
	master  []byte
	slot    int
	workers int
}

// P14.2: what is refused, in its order.
func TestOpenRefused(t *testing.T) {
	st := newStage(t, 512, "aes128-ecb").turning(api.Turn{Cipher: "aes128-ecb", Mode: 1, Hot: 4}, 1, true)
	altered := func(do func(m *api.Meta)) func(a *opening) {
		return func(a *opening) {
			d, there := a.device.(*tape)
			if !there || bytes.Equal(d.disk[:4], make([]byte, 4)) {
				return
			}
			r := st.ring(d)
			m := r.Meta()
			do(&m)
			must(t, "Commit", r.Commit(m))
		}
	}
	var all []wrong[opening]
	for _, n := range []int{math.MinInt, -1, 0, 17, math.MaxInt} {
		all = append(all, wrong[opening]{fmt.Sprint("workers ", n), 1, api.ErrArg, func(a *opening) { a.workers = n }})
	}
	all = append(all,
		wrong[opening]{"no device", 2, api.ErrNil, func(a *opening) { a.device = nil }},
		wrong[opening]{"no header", 3, api.ErrHeader, func(a *opening) {
			if d, there := a.device.(*tape); there {
				clear(d.disk[:32768])
			}
		}},
		wrong[opening]{"passphrase", 4, api.ErrPass, func(a *opening) { a.pass, a.master = []byte("x"), make([]byte, 32) }},
		wrong[opening]{"check of the old key", 5, api.ErrCheck, altered(func(m *api.Meta) { m.Epochs[0].Check = string(make([]byte, 32)) })},
		wrong[opening]{"check of the new key", 5, api.ErrCheck, altered(func(m *api.Meta) { m.Epochs[1].Check = string(make([]byte, 32)) })},
		wrong[opening]{"journal", 6, api.ErrJournal, altered(func(m *api.Meta) { m.Rotation.Sum = string(make([]byte, 32)) })},
	)
	pairs(all, func(name string, e api.Errno, do ...func(a *opening)) {
		d := st.tape.again()
		a := opening{d, []byte("a"), st.master, -1, 1}
		for _, x := range do {
			x(&a)
		}
		d.plan(0, 0, 0)
		before := bytes.Clone(d.disk)
		v, got := volume.Open(a.device, a.pass, a.slot, a.workers)
		expect(t, name+": Open", got, e)
		w, got := volume.Reopen(a.device, a.master, a.workers)
		if e == api.ErrPass {
			e = api.ErrMaster
		}
		expect(t, name+": Reopen", got, e)
		if v != nil || w != nil {
			t.Errorf("%s: a volume beside an error", name)
		}
		if !bytes.Equal(d.disk, before) {
			t.Errorf("%s: something is written", name)
		}
	})
	d := &tape{t: t, unit: 512, disk: append(bytes.Clone(st.tape.disk), make([]byte, 512)...)}
	_, e := volume.Open(d, []byte("a"), -1, 1)
	expect(t, "a larger device", e, api.ErrDevShape)
	_, want := keyring.Load((*slab.Slab)(nil))
	_, e = volume.Open((*slab.Slab)(nil), []byte("a"), -1, 1)
	expect(t, "a slab that is nothing", e, want)
}

// P14.2: all numbers of workers from 1 to MaxWorkers open.
func TestWorkers(t *testing.T) {
	st := newStage(t, 512, "aes128-ecb").turning(api.Turn{Cipher: "null", Mode: 2, Hot: 8}, 0, true)
	for workers := 1; workers <= api.MaxWorkers; workers++ {
		v, e := volume.Open(st.tape.again(), []byte("b"), -1, workers)
		expect(t, "Open", e, api.OK)
		holds(t, fmt.Sprint("workers ", workers), v, contents(512, 0, many, 0))
	}
}
