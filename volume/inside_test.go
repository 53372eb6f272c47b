package volume

import (
	"bytes"
	"testing"

	"coffer/api"
	"coffer/keyring"
	"coffer/slab"
	"coffer/spring"
	"coffer/tweak"
)

// made gives a volume that is opened, its spring and its slab.
func made(t *testing.T, plan ...api.Glitch) (*Volume, *spring.Spring, *slab.Slab) {
	t.Helper()
	d, _ := slab.New(512, 200, plan...)
	s, _ := spring.New(256, 1000, bytes.Repeat([]byte{7}, 32), nil, nil)
	f := api.Format{Head: 16384, Keys: 16384, Cipher: "aes128-ecb", DigestTurns: 1, Slot: api.SlotOpts{Priority: 1, Hash: 256, Turns: 1, Cipher: "aes128-ecb", Stripes: 1}}
	if e := Format(d, s, f, []byte("a")); e != api.OK {
		t.Fatalf("Format: %d", e)
	}
	v, e := Open(d, []byte("a"), -1, 2)
	if e != api.OK {
		t.Fatalf("Open: %d", e)
	}
	return v, s, d
}

// keys gives the ciphers of a volume, and its ring, as they are now.
func keys(t *testing.T, v *Volume, want int) (map[uint64]*tweak.Cipher, *keyring.Ring) {
	t.Helper()
	out := map[uint64]*tweak.Cipher{}
	for n, c := range v.core.ciphers {
		out[n] = c
	}
	if len(out) != want {
		t.Errorf("%d ciphers, not %d", len(out), want)
	}
	return out, v.core.ring.(*keyring.Ring)
}

// gone: a cipher's key was put away.
func gone(t *testing.T, name string, c *tweak.Cipher) {
	t.Helper()
	if _, e := c.Seal(0, make([]byte, 512)); e != api.ErrWiped {
		t.Errorf("%s: a key is there still: %d", name, e)
	}
}

// away: all keys of a volume were put away.
func away(t *testing.T, name string, v *Volume, ciphers map[uint64]*tweak.Cipher, ring *keyring.Ring) {
	t.Helper()
	for _, c := range ciphers {
		gone(t, name, c)
	}
	if !ring.Locked() {
		t.Errorf("%s: the master key is there still", name)
	}
	if v.core != nil && len(v.core.ciphers) != 0 {
		t.Errorf("%s: %d ciphers", name, len(v.core.ciphers))
	}
}

var turn = api.Turn{Cipher: "aes256-ecb", Mode: api.ByJournal, Hot: 8}

// P14.7, P14.8, 0.4: keys are put away as soon as a volume cannot use them: when it is suspended, closed or stuck, and where a Resume ends with an error.
func TestPutAway(t *testing.T) {
	for _, ways := range []struct {
		name string
		do   func(v *Volume, d *slab.Slab) api.Errno
	}{
		{"Suspend", func(v *Volume, d *slab.Slab) api.Errno { return v.Suspend() }},
		{"Close", func(v *Volume, d *slab.Slab) api.Errno { return v.Close() }},
		{"Close without power", func(v *Volume, d *slab.Slab) api.Errno { d.Off(); return v.Close() }},
		{"a step that fails", func(v *Volume, d *slab.Slab) api.Errno { d.Off(); _, e := v.RotateStep(); return e }},
		{"a commit that fails", func(v *Volume, d *slab.Slab) api.Errno { d.Off(); return v.PreferSlot(0, 1) }},
	} {
		v, s, d := made(t)
		if e := v.RotateStart(s, turn); e != api.OK {
			t.Fatalf("RotateStart: %d", e)
		}
		ciphers, ring := keys(t, v, 2)
		ways.do(v, d)
		away(t, ways.name, v, ciphers, ring)
		if v.state == api.Closed && *v != (Volume{state: api.Closed}) {
			t.Errorf("%s: something is kept", ways.name)
		}
	}
	v, _, _ := made(t)
	v.Suspend()
	if e := v.Resume([]byte("b"), -1); e != api.ErrPass {
		t.Errorf("Resume: %d", e)
	}
	ciphers, ring := keys(t, v, 0)
	away(t, "Resume", v, ciphers, ring)
}

// P14.7: a Resume that has opened the ring and finds an epoch without its key locks the ring anew; the keyslot counts only where all keys were had.
func TestResumeWithoutKey(t *testing.T) {
	v, s, _ := made(t)
	if n, e := v.AddSlot(s, []byte("b"), 1, api.SlotOpts{Priority: 1, Hash: 256, Turns: 1, Cipher: "aes128-ecb", Stripes: 1}); n != 1 || e != api.OK {
		t.Fatalf("AddSlot: %d", e)
	}
	if e := v.RotateStart(s, turn); e != api.OK {
		t.Fatalf("RotateStart: %d", e)
	}
	v.Suspend()
	r := v.core.ring.(*keyring.Ring)
	m := r.Meta()
	m.Epochs[1].Check = string(make([]byte, 32))
	if e := r.Commit(m); e != api.OK {
		t.Fatalf("Commit: %d", e)
	}
	if e := v.Resume([]byte("b"), -1); e != api.ErrCheck {
		t.Errorf("Resume: %d", e)
	}
	if x := v.Status(); x.State != api.Suspended || x.Slot != 0 {
		t.Errorf("%+v", x)
	}
	ciphers, ring := keys(t, v, 0)
	away(t, "Resume", v, ciphers, ring)
}

// P14.12: behind the last step the old epoch's key is put away, and no other.
func TestOldKey(t *testing.T) {
	v, s, _ := made(t)
	if e := v.RotateStart(s, turn); e != api.OK {
		t.Fatalf("RotateStart: %d", e)
	}
	ciphers, _ := keys(t, v, 2)
	for over := false; !over; {
		for n, c := range ciphers {
			if _, e := c.Seal(0, make([]byte, 512)); e != api.OK {
				t.Fatalf("epoch %d: %d", n, e)
			}
		}
		var e api.Errno
		if over, e = v.RotateStep(); e != api.OK {
			t.Fatalf("RotateStep: %d", e)
		}
	}
	left, _ := keys(t, v, 1)
	gone(t, "the old key", ciphers[0])
	if left[1] != ciphers[1] {
		t.Error("the new key is not there")
	}
}

// The iterator gives runs of one epoch that have sectors, one behind the other, and can be left in the midst.
func TestRuns(t *testing.T) {
	segments := []api.Segment{{Start: 0, Count: 5, Epoch: 1}, {Start: 5, Count: 3, Epoch: 0}}
	for at := range uint64(8) {
		for count := uint64(1); at+count <= 8; count++ {
			next := at
			for run := range runs(segments, at, count) {
				first, last := run.Start < 5, run.Start+run.Count <= 5
				if run.Start != next || run.Count == 0 || first != last || first != (run.Epoch == 1) {
					t.Errorf("%d sectors at %d: %v", count, at, run)
				}
				next += run.Count
			}
			if next != at+count {
				t.Errorf("%d sectors at %d: up to %d", count, at, next)
			}
		}
	}
	for run := range runs(segments, 4, 2) {
		if run != (api.Segment{Start: 4, Count: 1, Epoch: 1}) {
			t.Errorf("%v", run)
		}
		break
	}
}

// What a layer answers is told through all that is wrapped around it.
func TestFault(t *testing.T) {
	if wrapped(api.OK) != nil || marked(api.OK, errHalf) != nil || number(nil) != api.OK {
		t.Error("an error out of none")
	}
	if number(wrapped(api.ErrOff)) != api.ErrOff || number(marked(api.ErrOff, errHalf)) != api.ErrOff {
		t.Error("another error")
	}
	if wrapped(api.ErrOff).Error() != api.ErrOff.Error() {
		t.Error("another text")
	}
}

// odd is a ring that answers some calls in its own way.
type odd struct {
	ring
	key   []byte
	epoch api.Epoch
}

func (o odd) Key(number uint64) ([]byte, api.Errno) { return o.key, api.OK }

func (o odd) Epoch(s *spring.Spring, number uint64, cipher string) (api.Epoch, api.Errno) {
	return o.epoch, api.OK
}

// P14.2, P14.7: a cipher that layer 3 refuses ends the call with its error.
func TestCipherRefused(t *testing.T) {
	v, _, _ := made(t)
	v.Suspend()
	v.core.ring = odd{ring: v.core.ring, key: make([]byte, 17)}
	if e := v.Resume([]byte("a"), 0); e != api.ErrTweakKey {
		t.Errorf("Resume: %d", e)
	}
	if x := v.Status(); x.State != api.Suspended {
		t.Errorf("%+v", x)
	}
}

// P14.11: what layer 13 refuses is not committed.
func TestBeginRefused(t *testing.T) {
	v, s, d := made(t)
	v.core.ring = odd{ring: v.core.ring}
	before := d.Ops()
	if e := v.RotateStart(s, turn); e != api.ErrArg {
		t.Errorf("RotateStart: %d", e)
	}
	if d.Ops() != before || v.Status().Rotation.On || v.Status().State != api.Opened {
		t.Errorf("%+v", v.Status())
	}
}

// P14.4, P14.5: where layer 12 answers an error, into stays as it was, and nothing is written.
func TestConvoyRefuses(t *testing.T) {
	v, s, d := made(t)
	if e := v.RotateStart(s, turn); e != api.OK {
		t.Fatalf("RotateStart: %d", e)
	}
	if _, e := v.RotateStep(); e != api.OK {
		t.Fatalf("RotateStep: %d", e)
	}
	v.core.ciphers[0].Wipe() // of the sectors from 8 on
	into := bytes.Repeat([]byte{5}, 4*512)
	if e := v.Read(6, into); e != api.ErrWiped {
		t.Errorf("Read: %d", e)
	}
	if !bytes.Equal(into, bytes.Repeat([]byte{5}, 4*512)) {
		t.Error("into has changed")
	}
	before := d.Ops()
	if e := v.Write(6, into); e != api.ErrWiped {
		t.Errorf("Write: %d", e)
	}
	if d.Ops() != before || v.Status().State != api.Opened {
		t.Errorf("operations, or state %d", v.Status().State)
	}
}
