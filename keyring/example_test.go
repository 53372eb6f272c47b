package keyring_test

import (
	"testing"

	"coffer/api"
	"coffer/keyring"
	"coffer/slab"
	"coffer/spring"
)

// exampleVolume makes the volume of the chapter's examples.
func exampleVolume(t *testing.T, plan ...api.Glitch) (*slab.Slab, *spring.Spring, *keyring.Ring) {
	t.Helper()
	d, e := slab.New(512, 200, plan...)
	expect(t, "slab.New", e, api.OK)
	s := fresh(t, 100)
	r, e := keyring.Make(d, s, format(func(f *api.Format) { f.Keys = 8192 }), []byte("a"))
	if r == nil || e != api.OK {
		t.Fatalf("Make: error %d", e)
	}
	return d, s, r
}

// adds finds what Add does not answer as an example tells it.
func adds(t *testing.T, r *keyring.Ring, s *spring.Spring, pass string, slot, want int, e api.Errno, at int64) {
	t.Helper()
	n, got := r.Add(s, []byte(pass), slot, opts())
	if n != want || got != e {
		t.Errorf("Add(%q, %d): %d, error %d", pass, slot, n, got)
	}
	for _, x := range r.Meta().Slots {
		if x.Number == n && x.Area != (api.Area{Offset: at, Size: 4096}) {
			t.Errorf("Add(%q, %d): at %v", pass, slot, x.Area)
		}
	}
}

func TestExamples1To3(t *testing.T) {
	_, s, r := exampleVolume(t)
	m := r.Meta()
	if r.Seq() != 1 || m.Slots[0].Area != (api.Area{Offset: 32768, Size: 4096}) || m.Segments[0] != (api.Segment{Count: 120}) {
		t.Errorf("Make: %d, %s", r.Seq(), brief(m))
	}
	adds(t, r, s, "b", api.AnySlot, 1, api.OK, 36864)
	if r.Seq() != 2 {
		t.Errorf("Seq %d", r.Seq())
	}
	adds(t, r, s, "c", api.AnySlot, -1, api.ErrFullRing, 0)
	expect(t, "Kill(0)", r.Kill(0), api.OK)
	if r.Seq() != 3 {
		t.Errorf("Seq %d", r.Seq())
	}
	expect(t, "Kill(1)", r.Kill(1), api.ErrLast)
	adds(t, r, s, "c", 5, 5, api.OK, 32768)
	expect(t, "Change", r.Change(s, []byte("d"), 1, opts()), api.ErrFullRing)

	opens(t, "example 2", r, "a", api.AnySlot, -1, api.ErrPass)
	opens(t, "example 2", r, "c", api.AnySlot, 5, api.OK)
	opens(t, "example 2", r, "c", 1, -1, api.ErrPass)
	opens(t, "example 2", r, "c", 0, -1, api.ErrSlot)
	opens(t, "example 2", r, "c", 32, -1, api.ErrArg)

	expect(t, "Prefer", r.Prefer(5, 0), api.OK)
	opens(t, "example 3", r, "c", api.AnySlot, -1, api.ErrPass)
	opens(t, "example 3", r, "c", 5, 5, api.OK)
}

func TestExample4(t *testing.T) {
	d, _, _ := exampleVolume(t)
	r, e := keyring.Load(d)
	expect(t, "Load", e, api.OK)
	_, e = r.Key(0)
	expect(t, "Key(0)", e, api.ErrLocked)
	opens(t, "Open", r, "a", api.AnySlot, 0, api.OK)
	_, e = r.Key(1)
	expect(t, "Key(1)", e, api.ErrEpoch)
}

func TestExample5(t *testing.T) {
	d, s, r := exampleVolume(t)
	adds(t, r, s, "b", api.AnySlot, 1, api.OK, 36864)
	expect(t, "Kill", r.Kill(0), api.OK)
	zeros := d.Ops() - 1 // the last write, ahead of the last Flush
	d, s, r = exampleVolume(t, api.Glitch{Op: zeros, Kind: api.GlitchWrite})
	adds(t, r, s, "b", api.AnySlot, 1, api.OK, 36864)
	expect(t, "Kill(0)", r.Kill(0), api.ErrDevice)
	expect(t, "Kill(1)", r.Kill(1), api.ErrStuck)
	if m := r.Meta(); !r.Stuck() || len(m.Slots) != 1 || m.Slots[0].Number != 1 {
		t.Errorf("stuck %v, %s", r.Stuck(), brief(m))
	}
	r, e := keyring.Load(d)
	expect(t, "Load", e, api.OK)
	expect(t, "Sweep", r.Sweep(), api.OK)
	unclaimedZeros(t, "Sweep", r.Meta(), restOf(t, d))
}
