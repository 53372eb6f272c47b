package keyring_test

import (
	"bytes"
	"fmt"
	"math"
	"slices"
	"strings"
	"testing"

	"coffer/api"
	"coffer/keyring"
	"coffer/slab"
	"coffer/spring"
	"coffer/tweak"
)

// places are where Clear of layer 8 writes zeros, as far as they lie on a device of so many bytes.
func places(size int) []int64 {
	out := []int64{0}
	for at := 1 << 14; at <= 1<<22 && at < size; at *= 2 {
		out = append(out, int64(at))
	}
	return out
}

// afterMake gives what a device holds behind Make, and in which order that was written.
func afterMake(t *testing.T, d *tape, m made) ([]byte, []event) {
	t.Helper()
	disk := bytes.Clone(d.disk)
	keys, data := int64(2*m.meta.Shape.Head), int64(2*m.meta.Shape.Head+m.meta.Shape.Keys)
	var order []event
	for _, at := range places(len(disk)) {
		clear(disk[at : at+int64(d.unit)])
		order = append(order, d.wrote(at, int64(d.unit)))
	}
	order = append(order, flushed)
	zeros := make([]byte, d.unit)
	for at := keys; at < data; at += int64(d.unit) {
		if !bytes.Equal(disk[at:at+int64(d.unit)], zeros) {
			order = append(order, d.wrote(at, int64(d.unit)))
		}
	}
	clear(disk[keys:data])
	order = append(order, flushed, d.wrote(keys, int64(len(m.content))))
	order = append(order, d.committed(m.meta.Shape.Head)...)
	disk = overlaid(overlaid(disk, 0, copies(t, m.meta, 1)), keys, m.content)
	return disk, joined(order)
}

// joined gives events with writes of one behind the other as one.
func joined(order []event) []event { return (&tape{asked: order}).changes() }

// makeAs makes a volume and holds all of it against the model.
func makeAs(t *testing.T, name string, d *tape, f api.Format, pass []byte) {
	t.Helper()
	s := fresh(t, 100)
	model := s.Copy()
	m := modelMake(t, d.unit, d.Count(), model, f, pass)
	disk, order := afterMake(t, d, m)
	r, e := keyring.Make(d, s, f, pass)
	if r == nil || e != api.OK {
		t.Errorf("%s: error %d", name, e)
		return
	}
	d.holds(name, disk, order...)
	stands(t, name, r, m.meta, 1, false, false)
	if r.Device() != api.Device(d) {
		t.Errorf("%s: another device", name)
	}
	if got, e := r.Master(); !bytes.Equal(got, m.master) || e != api.OK {
		t.Errorf("%s: Master: error %d", name, e)
	}
	if got, e := r.Key(0); !bytes.Equal(got, m.key) || e != api.OK {
		t.Errorf("%s: Key: error %d", name, e)
	}
	if !alike(s, model) {
		t.Errorf("%s: more or less was drawn", name)
	}
	if n, e := r.Open(pass, 0); n != 0 || e != api.OK {
		t.Errorf("%s: Open: %d, error %d", name, n, e)
	}
}

// dirtied fills a device with bytes of which some sectors are zeros.
func dirtied(d *tape) *tape {
	for i := range d.disk {
		if i/d.unit%3 != 0 {
			d.disk[i] = byte(i*7 + i>>9 + 1)
		}
	}
	return d
}

// P10.1: all units, both digests, numbers of stripes at each edge, all ciphers of the data and of the keyslot.
func TestMake(t *testing.T) {
	t.Parallel()
	for i, stripes := range []int{1, 2, 15, 16, 17, 127, 128, 129, 144, 2048, 2049, 2050, 4000} {
		for j, unit := range units {
			f := format(func(f *api.Format) {
				f.Head, f.Keys = 16384<<(i%2), 131072
				f.Slot.Stripes, f.Slot.Hash, f.Slot.Turns, f.Slot.Priority = stripes, 256*(1+(i+j)%2), 1+i, i%3
			})
			makeAs(t, fmt.Sprintf("unit %d, %d stripes", unit, stripes), newTape(t, unit, 3<<16+4096), f, []byte("pass"))
		}
	}
	for i, cipher := range tweak.Specs() {
		other := tweak.Specs()[1+(i+7)%51]
		f := format(func(f *api.Format) { f.Cipher, f.Slot.Cipher = cipher, other })
		makeAs(t, cipher+", "+other, newTape(t, units[i%4], 53248), f, nil)
	}
}

// P10.1: what was there is gone from the keyslots area, by writes of those sectors alone that are not zeros; of the data nothing is touched but layer 8's places.
func TestMakeOverOther(t *testing.T) {
	t.Parallel()
	for _, unit := range units {
		for _, keys := range []int{4096, 16384, 1 << 17, 1 << 20} {
			f := format(func(f *api.Format) { f.Keys = keys })
			makeAs(t, fmt.Sprintf("unit %d, keys %d", unit, keys), dirtied(newTape(t, unit, 32768+keys+1<<15)), f, []byte("p"))
		}
	}
	old := newVolume(t, 512, format())
	old.add("b", 7, opts())
	makeAs(t, "another volume", old.tape, format(func(f *api.Format) { f.Head, f.Keys = 32768, 4096 }), []byte("p"))
}

// P10.1: a keyslots area of more than 4096 sectors is read and written in calls of at most so many.
func TestMakeWide(t *testing.T) {
	t.Parallel()
	d := newTape(t, 512, 32768+4096*512+8192+4096)
	for i := range d.disk {
		d.disk[i] = 1
	}
	makeAs(t, "wide", d, format(func(f *api.Format) { f.Keys = 4096*512 + 8192 }), []byte("p"))
}

// P10.1: passphrases of all lengths that may be; a device that has just one sector of data.
func TestMakeEdges(t *testing.T) {
	for _, n := range []int{0, 1, 63, 64, 65, 511, 512} {
		makeAs(t, fmt.Sprint("a passphrase of ", n), newTape(t, 512, 65536), format(), bytes.Repeat([]byte{0, 255}, 256)[:n])
	}
	for _, unit := range units {
		makeAs(t, "one sector", newTape(t, unit, 32768+16384+unit), format(), []byte("p"))
		makeAs(t, "all of the keyslots area", newTape(t, unit, 32768+4096+unit), format(func(f *api.Format) { f.Keys = 4096 }), []byte("p"))
	}
	makeAs(t, "long names", newTape(t, 512, 65536), format(func(f *api.Format) {
		f.Label, f.Subsystem, f.UUID = strings.Repeat("l", 47), strings.Repeat("\xff", 47), strings.Repeat("u", 39)
	}), nil)
	makeAs(t, "no names", newTape(t, 512, 65536), format(func(f *api.Format) { f.Label, f.Subsystem, f.UUID = "", "", "" }), nil)
}

// P10.1: the most turns, of the digest and of a keyslot whose key is the longest.
func TestMakeTurns(t *testing.T) {
	t.Parallel()
	makeAs(t, "the most turns", newTape(t, 512, 65536), format(func(f *api.Format) {
		f.DigestTurns, f.Slot.Turns, f.Slot.Cipher = 1<<20, 1<<20, "aes256-xts-plain64"
	}), nil)
}

// making is what Make is handed.
type making struct {
	device api.Device
	spring *spring.Spring
	format api.Format
	pass   []byte
}

// wrong is a thing that may not be, and the error that tells it; those of a lower rank are told ahead of those of a higher one.
type wrong[A any] struct {
	name string
	rank int
	e    api.Errno
	do   func(a *A)
}

// pairs calls with each thing alone, and with each two of them: the one of the lower rank is told. It is done last, so that it stands where both are of one field.
func pairs[A any](all []wrong[A], ask func(name string, e api.Errno, do ...func(a *A))) {
	for i, a := range all {
		ask(a.name, a.e, a.do)
		for _, b := range all[i+1:] {
			first, last := b, a
			if b.rank < a.rank {
				first, last = a, b
			}
			ask(a.name+"; "+b.name, last.e, first.do, last.do)
		}
	}
}

// wrongOpts lists options of a keyslot that may not be.
func wrongOpts() map[string]func(o *api.SlotOpts) {
	out := map[string]func(o *api.SlotOpts){}
	for _, n := range []int{math.MinInt, -1, 3, math.MaxInt} {
		out[fmt.Sprint("priority ", n)] = func(o *api.SlotOpts) { o.Priority = n }
	}
	for _, n := range []int{math.MinInt, 0, 224, 255, 384, 1024} {
		out[fmt.Sprint("hash ", n)] = func(o *api.SlotOpts) { o.Hash = n }
	}
	for _, n := range []int{math.MinInt, -1, 0, 1<<20 + 1, math.MaxInt} {
		out[fmt.Sprint("turns ", n)] = func(o *api.SlotOpts) { o.Turns = n }
	}
	for _, n := range []int{math.MinInt, -1, 0, 4001, math.MaxInt} {
		out[fmt.Sprint("stripes ", n)] = func(o *api.SlotOpts) { o.Stripes = n }
	}
	for _, name := range []string{"", "null", "aes", "aes128-xts-plain64 ", "AES128-XTS-PLAIN64"} {
		out[fmt.Sprintf("cipher %q", name)] = func(o *api.SlotOpts) { o.Cipher = name }
	}
	return out
}

// notMade lists what Make refuses, by the numbers of P10.1's list.
func notMade(t *testing.T) []wrong[making] {
	out := []wrong[making]{
		{"no device", 1, api.ErrNil, func(a *making) { a.device = nil }},
		{"no spring", 1, api.ErrNil, func(a *making) { a.spring = nil }},
		{"a slab that is not there", 2, api.ErrArg, func(a *making) { a.device = (*slab.Slab)(nil) }},
		{"a long passphrase", 3, api.ErrLong, func(a *making) { a.pass = make([]byte, 513) }},
		{"no room", 4, api.ErrFullRing, func(a *making) { a.format.Slot.Stripes = 513 }},
		{"thirst", 5, api.ErrThirst, func(a *making) { a.spring = thirsty(t, 6) }},
	}
	refuse := func(name string, do func(f *api.Format)) {
		out = append(out, wrong[making]{name, 2, api.ErrArg, func(a *making) { do(&a.format) }})
	}
	for _, n := range []int{math.MinInt, -16384, 0, 8192, 16383, 24576, 32768, 1 << 23} {
		refuse(fmt.Sprint("head ", n), func(f *api.Format) { f.Head = n })
	}
	for _, n := range []int{math.MinInt, -4096, 0, 2048, 4097, 32768, 1<<27 + 4096} {
		refuse(fmt.Sprint("keys ", n), func(f *api.Format) { f.Keys = n })
	}
	for _, n := range []int{math.MinInt, -1, 0, 1<<20 + 1, math.MaxInt} {
		refuse(fmt.Sprint("digest's turns ", n), func(f *api.Format) { f.DigestTurns = n })
	}
	refuse("no cipher", func(f *api.Format) { f.Cipher = "aes64-ecb" })
	refuse("a long label", func(f *api.Format) { f.Label = strings.Repeat("l", 48) })
	refuse("a label with a zero", func(f *api.Format) { f.Label = "\x00" })
	refuse("a long subsystem", func(f *api.Format) { f.Subsystem = strings.Repeat("l", 48) })
	refuse("a subsystem with a zero", func(f *api.Format) { f.Subsystem = "s\x00" })
	refuse("a long UUID", func(f *api.Format) { f.UUID = strings.Repeat("l", 40) })
	refuse("a UUID with a zero", func(f *api.Format) { f.UUID = "\x00u" })
	for name, do := range wrongOpts() {
		refuse(name, func(f *api.Format) { do(&f.Slot) })
	}
	return out
}

// thirsty gives a spring that has so many draws left.
func thirsty(t *testing.T, left int) *spring.Spring {
	t.Helper()
	s := fresh(t, 100)
	for s.Left() > left {
		s.Draw(1)
	}
	return s
}

// P10.1: each refusal, alone and with each other one: the one that stands first. The device is not touched, and the spring neither, unless it is the one that refuses.
func TestMakeRefused(t *testing.T) {
	t.Parallel()
	pairs(notMade(t), func(name string, want api.Errno, do ...func(a *making)) {
		d := dirtied(newTape(t, 512, 65536-512))
		disk := bytes.Clone(d.disk)
		s := fresh(t, 100)
		a := making{d, s, format(), []byte("p")}
		for _, f := range do {
			f(&a)
		}
		r, e := keyring.Make(a.device, a.spring, a.format, a.pass)
		if r != nil || e != want {
			t.Errorf("%s: error %d, not %d", name, e, want)
		}
		d.holds(name, disk)
		if len(d.asked) != 0 || !alike(s, fresh(t, 100)) {
			t.Errorf("%s: %v, or something was drawn", name, d.asked)
		}
	})
}

// P10.1: units and numbers of sectors of a device that may not be.
func TestMakeShape(t *testing.T) {
	for _, unit := range []int{math.MinInt, -512, 0, 1, 256, 511, 513, 1536, 8192} {
		r, e := keyring.Make(odd{unit, 1 << 20}, fresh(t, 100), format(), nil)
		if r != nil || e != api.ErrArg {
			t.Errorf("unit %d: error %d", unit, e)
		}
	}
	for _, count := range []uint64{0, 95, 96, 1<<32 + 1, math.MaxUint64} {
		r, e := keyring.Make(odd{512, count}, fresh(t, 100), format(), nil)
		if r != nil || e != api.ErrArg {
			t.Errorf("count %d: error %d", count, e)
		}
	}
}

// odd is a device of any numbers, which may not be asked for an operation.
type odd struct {
	unit  int
	count uint64
}

func (o odd) Unit() int                      { return o.unit }
func (o odd) Count() uint64                  { return o.count }
func (o odd) Read(uint64, []byte) api.Errno  { return api.ErrState }
func (o odd) Write(uint64, []byte) api.Errno { return api.ErrState }
func (o odd) Flush() api.Errno               { return api.ErrState }

// 0.3: a spring that refuses at each of Make's draws: the device is as it was; what was drawn till then is gone from the spring.
func TestMakeThirst(t *testing.T) {
	t.Parallel()
	for _, x := range []struct {
		draws int
		f     api.Format
	}{
		{7, format()},
		{6, format(func(f *api.Format) { f.Cipher = "null" })},
		{6, format(func(f *api.Format) { f.Slot.Stripes = 1 })},
		{5, format(func(f *api.Format) { f.Slot.Stripes, f.Cipher = 1, "null" })},
		{7, format(func(f *api.Format) { f.Slot.Stripes, f.Keys = 2049, 1<<16+4096 })},
		{8, format(func(f *api.Format) { f.Slot.Stripes, f.Keys = 2050, 1<<16+4096 })},
		{8, format(func(f *api.Format) { f.Slot.Stripes, f.Keys = 4000, 1<<17 })},
	} {
		for left := range x.draws + 1 {
			d := dirtied(newTape(t, 1024, 1<<18))
			disk := bytes.Clone(d.disk)
			s := thirsty(t, left)
			r, e := keyring.Make(d, s, x.f, nil)
			if left == x.draws {
				if r == nil || e != api.OK || s.Left() != 0 {
					t.Errorf("%d draws: error %d, %d left", left, e, s.Left())
				}
				continue
			}
			if r != nil || e != api.ErrThirst || len(d.asked) != 0 || !bytes.Equal(d.disk, disk) || s.Left() != 0 {
				t.Errorf("%d draws of %d: error %d, %v", left, x.draws, e, d.asked)
			}
		}
	}
}

// P10.1: an error of the device at each of its operations is answered, and there is no ring; whoever makes it again has it.
func TestMakeFails(t *testing.T) {
	t.Parallel()
	whole := dirtied(newTape(t, 2048, 65536))
	keyring.Make(whole, fresh(t, 100), format(), nil)
	for op := 1; op <= len(whole.asked); op++ {
		for _, why := range []api.Errno{api.ErrDevice, api.ErrHeadText, 999, -1} {
			for part := range 2 {
				d := dirtied(newTape(t, 2048, 65536)).plan(op, why, part)
				r, e := keyring.Make(d, fresh(t, 100), format(), nil)
				if r != nil || e != why || !slices.Equal(d.asked, whole.asked[:op]) {
					t.Errorf("operation %d: error %d, not %d", op, e, why)
				}
				again := d.again()
				r, e = keyring.Make(again, fresh(t, 100), format(), nil)
				for at := range again.disk[32768:49152] { // the keyslots area and both copies are as if nothing had been there
					if again.disk[32768+at] != whole.disk[32768+at] {
						t.Fatalf("operation %d: made again: byte %d", op, 32768+at)
					}
				}
				if r == nil || e != api.OK || !bytes.Equal(again.disk[:32768], whole.disk[:32768]) {
					t.Errorf("operation %d: made again: error %d", op, e)
				}
			}
		}
	}
}
