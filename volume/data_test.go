package volume_test

import (
	"bytes"
	"fmt"
	"math"
	"math/big"
	"slices"
	"testing"

	"coffer/api"
	"coffer/slab"
	"coffer/spring"
	"coffer/tweak"
	"coffer/volume"
)

// guarded gives a list of so many bytes with more memory ahead of it and behind it, and what tells whether that has changed.
func guarded(n int) ([]byte, func() bool) {
	b := bytes.Repeat([]byte{0xa5}, n+64)
	return b[32 : 32+n], func() bool {
		return bytes.Equal(b[:32], bytes.Repeat([]byte{0xa5}, 32)) && bytes.Equal(b[32+n:], bytes.Repeat([]byte{0xa5}, 32))
	}
}

// P14.4, P14.5: each run of sectors, of volumes that stand and at each point of rotations: what is read, and what is laid on the device.
func TestReadWrite(t *testing.T) {
	t.Parallel()
	for _, unit := range []int{512, 2048} {
		for name, st := range stages(t, unit) {
			t.Run(fmt.Sprintf("unit %d, %s", unit, name), func(t *testing.T) {
				t.Parallel()
				readWritten(t, st)
			})
		}
	}
}

func readWritten(t *testing.T, st *stage) {
	unit := st.tape.unit
	base := st.tape.again()
	st.open(base) // recovered and swept
	old := contents(unit, 0, many, 0)
	whole := st.tape.again()
	v := st.open(whole)
	for at := range uint64(many) {
		for n := uint64(1); at+n <= many; n++ {
			name := fmt.Sprintf("%d sectors at %d", n, at)
			size := int(n) * unit
			into, kept := guarded(size)
			whole.plan(0, 0, 0)
			expect(t, name, v.Read(at, into), api.OK)
			if !bytes.Equal(into, old[int(at)*unit:][:size]) || !kept() {
				t.Fatalf("%s: other bytes are read", name)
			}
			if len(whole.changes()) != 0 {
				t.Fatalf("%s: a Read asks %v", name, whole.changes())
			}
			if (at*7+n)%11 == 0 || at+n == many {
				written(t, name, st, base.again(), at, n)
			}
		}
	}
}

// written writes sectors and looks at what the device holds behind that.
func written(t *testing.T, name string, st *stage, d *tape, at, n uint64) {
	t.Helper()
	v := st.open(d)
	d.plan(0, 0, 0)
	d.spoils = true
	data, kept := guarded(int(n) * d.unit)
	copy(data, contents(d.unit, at, n, 9))
	expect(t, name, v.Write(at, data), api.OK)
	if !bytes.Equal(data, contents(d.unit, at, n, 9)) || !kept() {
		t.Fatalf("%s: what is handed in is changed", name)
	}
	if want := []event{{'w', first(d.unit) + at, int(n)}}; !slices.Equal(d.changes(), want) {
		t.Fatalf("%s: %v, not %v", name, d.changes(), want)
	}
	want := contents(d.unit, 0, many, 0)
	copy(want[int(at)*d.unit:], data)
	if !bytes.Equal(st.raw(d), want) {
		t.Fatalf("%s: other bytes on the device", name)
	}
	holds(t, name, v, want)
}

// P14.5: a sector is sealed under its number by its epoch's cipher, of each kind of cipher.
func TestSealed(t *testing.T) {
	for _, cipher := range tweak.Specs() {
		st := newStage(t, 1024, cipher)
		d := st.tape.again()
		v := st.open(d)
		data := contents(1024, 3, 7, 5)
		expect(t, cipher, v.Write(3, data), api.OK)
		c := cipherOf(t, st.ring(d.again()), 0)
		for i := range uint64(7) {
			want, e := c.Seal(3+i, data[i*1024:(i+1)*1024])
			must(t, "Seal", e)
			at := int(first(1024)+3+i) * 1024
			if !bytes.Equal(d.disk[at:at+1024], want) {
				t.Errorf("%s: sector %d", cipher, 3+i)
			}
		}
	}
}

// refusal is P14.4's words a second time.
func refusal(unit int, n, at uint64, size int) api.Errno {
	count := big.NewInt(int64(size / unit))
	sum := count.Add(count, new(big.Int).SetUint64(at))
	switch {
	case size == 0 || size%unit != 0:
		return api.ErrShort
	case size/unit > 4096:
		return api.ErrLong
	case sum.Cmp(new(big.Int).SetUint64(n)) > 0:
		return api.ErrPlace
	}
	return api.OK
}

// P14.4, P14.5: what is refused, in its order; nothing is asked of the device then, and into stays as it was.
func TestRefusedSpans(t *testing.T) {
	st := newStage(t, 512, "null").turning(api.Turn{Cipher: "aes128-ecb", Mode: 1, Hot: 4}, 2, false)
	d := st.tape.again()
	v := st.open(d)
	ats := []uint64{0, 1, 7, 8, many - 1, many, many + 1, 4096, 1 << 32, 1<<55 - 1, 1<<63 - 1, 1 << 63, math.MaxUint64 - many, math.MaxUint64 - 1, math.MaxUint64}
	sizes := []int{0, 1, 511, 512, 513, 1024, many * 512, many*512 + 1, (many + 1) * 512, 4096 * 512, 4096*512 + 1, 4097 * 512, 4097*512 + 511, 8192 * 512}
	for _, at := range ats {
		for _, size := range sizes {
			for _, why := range []api.Errno{api.OK, 999} {
				name := fmt.Sprintf("%d bytes at %d, the device answers %d", size, at, why)
				want := refusal(512, many, at, size)
				into := bytes.Repeat([]byte{0xa5}, size)
				d.plan(1, why, 0)
				e := v.Read(at, into)
				if want != api.OK {
					expect(t, name+": Read", e, want)
				} else {
					expect(t, name+": Read", e, why)
				}
				if e != api.OK && !bytes.Equal(into, bytes.Repeat([]byte{0xa5}, size)) {
					t.Errorf("%s: into has changed", name)
				}
				if want != api.OK && len(d.asked) != 0 {
					t.Errorf("%s: asked %v", name, d.asked)
				}
				d.plan(1, why, 0)
				e = v.Write(at, make([]byte, size))
				if want != api.OK {
					expect(t, name+": Write", e, want)
				} else {
					expect(t, name+": Write", e, why)
				}
				if want != api.OK && len(d.asked) != 0 {
					t.Errorf("%s: asked %v", name, d.asked)
				}
				if got := v.Status().State; got != api.Opened {
					t.Fatalf("%s: state %d", name, got)
				}
			}
		}
	}
}

// P14.5: of a Write that the device ends with an error, sectors at its beginning are written; the volume is not stuck.
func TestWriteInPart(t *testing.T) {
	st := newStage(t, 512, "aes128-xts-plain64").turning(api.Turn{Cipher: "aes128-ecb", Mode: 1, Hot: 4, Back: true}, 2, false)
	for part := range 9 {
		d := st.tape.again()
		v := st.open(d)
		d.plan(1, api.ErrDevice, part)
		expect(t, "Write", v.Write(9, contents(512, 9, 8, 3)), api.ErrDevice)
		want := contents(512, 0, many, 0)
		copy(want[9*512:], contents(512, 9, uint64(part), 3))
		d.plan(0, 0, 0)
		holds(t, fmt.Sprint("part ", part), v, want)
		stands(t, fmt.Sprint("part ", part), v, st.meta(st.tape), api.Opened, 0)
	}
}

// large is a volume with more sectors than one call takes, over a slab.
func large(t *testing.T, unit int, n uint64) (*slab.Slab, *spring.Spring, *volume.Volume) {
	t.Helper()
	s, e := slab.New(unit, first(unit)+n)
	must(t, "slab.New", e)
	source := fresh(t, 1000)
	f := format()
	f.Cipher = "null"
	must(t, "Format", volume.Format(s, source, f, nil))
	v, e := volume.Open(s, nil, -1, 4)
	must(t, "Open", e)
	return s, source, v
}

// P14.4, P14.5: 4096 sectors in one call are read and written, over a rotation's border too; 4097 are not.
func TestMostSectors(t *testing.T) {
	_, s, v := large(t, 512, 5000)
	data := contents(512, 0, 4096, 1)
	expect(t, "Write", v.Write(904, data), api.OK)
	expect(t, "Write", v.Write(903, make([]byte, 4097*512)), api.ErrLong)
	expect(t, "Write", v.Write(905, data), api.ErrPlace)
	must(t, "RotateStart", v.RotateStart(s, api.Turn{Cipher: "aes128-ecb", Mode: api.ByDigests, Hot: 100, Back: true}))
	for range 11 {
		into := make([]byte, 4096*512)
		expect(t, "Read", v.Read(904, into), api.OK)
		if !bytes.Equal(into, data) {
			t.Fatal("other bytes")
		}
		data = contents(512, v.Status().Rotation.Done, 4096, 2)
		expect(t, "Write", v.Write(904, data), api.OK)
		_, e := v.RotateStep()
		must(t, "RotateStep", e)
	}
}

// Sectors far out: the numbers of a large device, which is empty but for a few of them.
func TestFarOut(t *testing.T) {
	s, _, v := large(t, 4096, 1<<32-first(4096))
	n := v.Status().Count
	if n != 1<<32-first(4096) {
		t.Fatalf("Count %d", n)
	}
	data := contents(4096, 0, 3, 1)
	expect(t, "Write", v.Write(n-3, data), api.OK)
	expect(t, "Write", v.Write(n-2, data), api.ErrPlace)
	into := make([]byte, 3*4096)
	expect(t, "Read", v.Read(n-3, into), api.OK)
	if !bytes.Equal(into, data) {
		t.Error("other bytes")
	}
	if b, _ := s.Peek(1<<32 - 1); !bytes.Equal(b, data[8192:]) {
		t.Error("other bytes on the device")
	}
}
