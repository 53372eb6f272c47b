package volume_test

import (
	"testing"

	"coffer/api"
	"coffer/slab"
	"coffer/spring"
	"coffer/volume"
)

// exampled gives the examples' volume: a slab of 512 · 200, data from sector 96 on.
func exampled(t *testing.T, plan ...api.Glitch) (*slab.Slab, *spring.Spring, *volume.Volume) {
	t.Helper()
	d, e := slab.New(512, 200, plan...)
	must(t, "slab.New", e)
	s := fresh(t, 1000)
	f := format()
	f.Keys = 16384
	must(t, "Format", volume.Format(d, s, f, []byte("a")))
	v, e := volume.Open(d, []byte("a"), api.AnySlot, 1)
	must(t, "Open", e)
	return d, s, v
}

func TestExample1(t *testing.T) {
	_, _, v := exampled(t)
	want := api.Status{State: api.Opened, Slot: 0, Unit: 512, Count: 104, Cipher: "aes128-xts-plain64", Epoch: 0, Slots: []int{0}}
	if got := v.Status(); !sameStatus(got, want) {
		t.Errorf("%+v", got)
	}
	expect(t, "Write", v.Write(103, make([]byte, 1024)), api.ErrPlace)
	expect(t, "Read", v.Read(0, make([]byte, 511)), api.ErrShort)
}

func TestExample2(t *testing.T) {
	_, s, v := exampled(t)
	expect(t, "Hot 50", v.RotateStart(s, api.Turn{Cipher: "null", Mode: api.ByJournal, Hot: 50}), api.ErrFullRing)
	expect(t, "Hot 8", v.RotateStart(s, api.Turn{Cipher: "null", Mode: api.ByJournal, Hot: 8}), api.OK)
	if got := v.Status().Rotation.Area; got != (api.Area{Offset: 36864, Size: 4096}) {
		t.Errorf("area %v", got)
	}
	for i := 1; i <= 14; i++ {
		over, e := v.RotateStep()
		expect(t, "RotateStep", e, api.OK)
		if over != (i == 14) {
			t.Errorf("step %d: over: %v", i, over)
		}
	}
	if got := v.Status().Epoch; got != 1 {
		t.Errorf("epoch %d", got)
	}
}

func TestExample3(t *testing.T) {
	_, _, v := exampled(t)
	expect(t, "Suspend", v.Suspend(), api.OK)
	expect(t, "Read", v.Read(0, make([]byte, 512)), api.ErrSuspended)
	expect(t, "Resume", v.Resume([]byte("b"), api.AnySlot), api.ErrPass)
	expect(t, "Resume", v.Resume([]byte("a"), api.AnySlot), api.OK)
}

// dark is a slab whose power goes at one of its next Flushes.
type dark struct {
	*slab.Slab
	left int
}

func (d *dark) Flush() api.Errno {
	if d.left--; d.left == 0 {
		d.Off()
	}
	return d.Slab.Flush()
}

// The power goes at each of a step's seven Flushes, the second one among them.
func TestExample4(t *testing.T) {
	for n := 1; n <= 7; n++ {
		s, source, v := exampled(t)
		must(t, "RotateStart", v.RotateStart(source, api.Turn{Cipher: "null", Mode: api.ByJournal, Hot: 8}))
		d := &dark{Slab: s}
		v, e := volume.Open(d, []byte("a"), api.AnySlot, 1)
		must(t, "Open", e)
		d.left = n
		over, e := v.RotateStep()
		expect(t, "RotateStep", e, api.ErrOff)
		if over || v.Status().State != api.Stuck {
			t.Errorf("over: %v, state %d", over, v.Status().State)
		}
		expect(t, "Read", v.Read(0, make([]byte, 512)), api.ErrStuck)
		expect(t, "Close", v.Close(), api.OK)
		must(t, "Restart", s.Restart())
		v, e = volume.Open(s, []byte("a"), api.AnySlot, 1)
		expect(t, "Open", e, api.OK)
		if done := v.Status().Rotation.Done; done != 0 && done != 8 {
			t.Errorf("Done %d", done)
		}
	}
}
