package keyring_test

import (
	"bytes"
	"crypto/sha256"
	"crypto/sha512"
	"fmt"
	"math"
	"slices"
	"testing"

	"coffer/api"
	"coffer/keyring"
)

// opens finds which keyslot a passphrase does not open as it must.
func opens(t *testing.T, name string, r *keyring.Ring, pass string, slot, want int, e api.Errno) {
	t.Helper()
	if n, got := r.Open([]byte(pass), slot); n != want || got != e {
		t.Errorf("%s: Open(%.20q, %d): %d, error %d, not %d, error %d", name, pass, slot, n, got, want, e)
	}
}

// crowd gives a volume with eight keyslots, some of one passphrase: 0, 3 and 4 of "a", 7 and 10 of "b", 20 and 30 of "c", 31 of "d".
func crowd(t *testing.T, unit int) *volume {
	t.Helper()
	v := newVolume(t, unit, format(func(f *api.Format) { f.Keys = 65536 }))
	for _, x := range []struct {
		pass     string
		number   int
		priority int
	}{{"a", 3, 0}, {"a", 4, 2}, {"b", 7, 1}, {"b", 10, 2}, {"c", 20, 0}, {"c", 30, 1}, {"d", 31, 2}} {
		v.add(x.pass, x.number, opts(func(o *api.SlotOpts) { o.Priority = x.priority }))
	}
	return v
}

// P10.5: by priority, then by number; one that is named is asked whatever its priority is, and no other one.
func TestOpenOrder(t *testing.T) {
	for _, unit := range units {
		r := crowd(t, unit).load()
		for _, x := range []struct {
			pass string
			slot int
			want int
			e    api.Errno
		}{
			{"a", -1, 4, 0}, {"a", 0, 0, 0}, {"a", 3, 3, 0}, {"a", 4, 4, 0}, {"a", 7, -1, api.ErrPass}, {"a", 1, -1, api.ErrSlot},
			{"b", -1, 10, 0}, {"b", 7, 7, 0}, {"b", 10, 10, 0}, {"b", 20, -1, api.ErrPass},
			{"c", -1, 30, 0}, {"c", 20, 20, 0}, {"c", 30, 30, 0}, {"c", 31, -1, api.ErrPass},
			{"d", -1, 31, 0}, {"d", 31, 31, 0}, {"d", 0, -1, api.ErrPass},
			{"e", -1, -1, api.ErrPass}, {"", -1, -1, api.ErrPass}, {"e", 29, -1, api.ErrSlot}, {"aa", 0, -1, api.ErrPass},
		} {
			expect(t, "Lock", r.Lock(), api.OK)
			opens(t, fmt.Sprint("unit ", unit), r, x.pass, x.slot, x.want, x.e)
			if r.Locked() != (x.e != api.OK) || r.Stuck() {
				t.Errorf("%q, %d: locked %v, stuck %v", x.pass, x.slot, r.Locked(), r.Stuck())
			}
		}
	}
}

// P10.5: which keyslots are asked, one behind the other, is seen by what is read; nothing is written, nothing flushed.
func TestOpenAsks(t *testing.T) {
	v := crowd(t, 512)
	m := v.Meta()
	for pass, numbers := range map[string][]int{"e": {4, 10, 31, 0, 7, 30}, "d": {4, 10, 31}, "c": {4, 10, 31, 0, 7, 30}, "b": {4, 10}, "a": {4}} {
		v.tape.asked = nil
		v.Open([]byte(pass), -1)
		var want []event
		for _, n := range numbers {
			i := slices.IndexFunc(m.Slots, func(s api.Slot) bool { return s.Number == n })
			want = append(want, event{'r', uint64(m.Slots[i].Area.Offset / 512), 1})
		}
		if !slices.Equal(v.tape.asked, want) {
			t.Errorf("%q: %v, not %v", pass, v.tape.asked, want)
		}
	}
}

// P10.5: ErrLong, ErrArg, ErrSlot, in this order; no keyslot of a priority above 0.
func TestOpenRefused(t *testing.T) {
	v := newVolume(t, 512, format())
	long := string(make([]byte, 513))
	for _, slot := range []int{math.MinInt, -2, 32, 33, math.MaxInt} {
		opens(t, "a wrong number", v.Ring, "a", slot, -1, api.ErrArg)
		opens(t, "a wrong number and a long passphrase", v.Ring, long, slot, -1, api.ErrLong)
	}
	for slot := 1; slot < 32; slot++ {
		opens(t, "no such keyslot", v.Ring, "a", slot, -1, api.ErrSlot)
		opens(t, "no such keyslot and a long passphrase", v.Ring, long, slot, -1, api.ErrLong)
	}
	opens(t, "a long passphrase", v.Ring, long, 0, -1, api.ErrLong)
	opens(t, "a long passphrase", v.Ring, long, -1, -1, api.ErrLong)
	if len(v.tape.asked) != 0 || v.Locked() {
		t.Errorf("%v, or a refusal has locked it", v.tape.asked)
	}
	expect(t, "Prefer", v.Prefer(0, 0), api.OK)
	opens(t, "priority 0", v.Ring, "a", -1, -1, api.ErrSlot)
	opens(t, "priority 0, wrong", v.Ring, "b", -1, -1, api.ErrSlot)
	opens(t, "priority 0, named", v.Ring, "a", 0, 0, api.OK)
	v.add("b", 5, opts())
	opens(t, "another one", v.Ring, "a", -1, -1, api.ErrPass)
}

// 0.3: a passphrase is the key of HMAC: zeros behind it, and the digest of a long one, are as good.
func TestOpenKeyBlock(t *testing.T) {
	long := bytes.Repeat([]byte("p"), 200)
	for _, hash := range []int{256, 512} {
		v := newVolume(t, 512, format())
		block := hash / 4
		o := opts(func(o *api.SlotOpts) { o.Hash = hash })
		v.add("pass", 1, o)
		v.add(string(long), 2, o)
		v.add(string(make([]byte, block)), 3, o)
		sum := sha256.Sum256(long)
		digest := sum[:]
		if hash == 512 {
			sum := sha512.Sum512(long)
			digest = sum[:]
		}
		for name, x := range map[string]struct {
			pass string
			slot int
			want int
		}{
			"a zero behind it":     {"pass\x00", 1, 1},
			"zeros up to a block":  {"pass" + string(make([]byte, block-4)), 1, 1},
			"one zero too many":    {"pass" + string(make([]byte, block-3)), 1, -1},
			"a zero ahead of it":   {"\x00pass", 1, -1},
			"the digest":           {string(digest), 2, 2},
			"the digest and zeros": {string(digest) + "\x00\x00", 2, 2},
			"a byte less":          {string(long[1:]), 2, -1},
			"nothing, as zeros":    {"", 3, 3},
		} {
			e := api.OK
			if x.want < 0 {
				e = api.ErrPass
			}
			opens(t, fmt.Sprint(hash, ": ", name), v.Ring, x.pass, x.slot, x.want, e)
		}
	}
}

// P10.5: every bit of what was sealed is needed; what lies behind it in the area is not looked at.
func TestOpenEachBit(t *testing.T) {
	for _, unit := range []int{512, 4096} {
		v := newVolume(t, unit, format(func(f *api.Format) { f.Slot.Stripes = 18 }))
		for at := range 4096 {
			if at > 40 && at < 500 && at%7 != 0 || at > 530 && at%61 != 0 {
				continue
			}
			d := v.tape.again()
			d.disk[32768+at] ^= 1 << (at % 8)
			r, e := keyring.Load(d)
			expect(t, "Load", e, api.OK)
			if at < 576 {
				opens(t, fmt.Sprint("byte ", at), r, "a", -1, -1, api.ErrPass)
			} else if at >= 1024 {
				opens(t, fmt.Sprint("byte ", at), r, "a", -1, 0, api.OK)
			}
		}
	}
}

// P10.5: each thing that a keyslot says is looked at.
func TestOpenOtherSlot(t *testing.T) {
	v := newVolume(t, 512, format(func(f *api.Format) { f.Slot.Stripes = 3 }))
	for name, do := range map[string]func(m *api.Meta){
		"another hash":   func(m *api.Meta) { m.Slots[0].Hash = 512 },
		"more turns":     func(m *api.Meta) { m.Slots[0].Turns = 2 },
		"another salt":   func(m *api.Meta) { m.Slots[0].Salt = string(make([]byte, 32)) },
		"another cipher": func(m *api.Meta) { m.Slots[0].Cipher = "aes256-xts-plain64" },
		"fewer stripes":  func(m *api.Meta) { m.Slots[0].Stripes = 2 },
		"more stripes":   func(m *api.Meta) { m.Slots[0].Stripes = 4 },
		"another place":  func(m *api.Meta) { m.Slots[0].Area.Offset += 4096 },
	} {
		expect(t, name, v.Commit(changed(v.meta, do)), api.OK)
		opens(t, name, v.Ring, "a", -1, -1, api.ErrPass)
		expect(t, name, v.Commit(v.meta), api.OK)
		opens(t, name+", and back", v.Ring, "a", -1, 0, api.OK)
	}
	d := v.tape.again()
	copy(d.disk, copies(t, changed(v.meta, func(m *api.Meta) { m.Digest.Turns++ }), 99))
	r, e := keyring.Load(d)
	expect(t, "Load", e, api.OK)
	opens(t, "another digest", r, "a", -1, -1, api.ErrPass)
	expect(t, "another digest: Unlock", r.Unlock(v.master), api.ErrMaster)
}

// P10.5: an error of the device ends it; the ring is as it was, not stuck, and can be asked again.
func TestOpenFails(t *testing.T) {
	v := crowd(t, 1024)
	for _, locked := range []bool{true, false} {
		for op := 1; op <= 6; op++ {
			r := v.load()
			if !locked {
				expect(t, "Unlock", r.Unlock(v.master), api.OK)
			}
			v.tape.plan(op, 888, 0)
			opens(t, fmt.Sprint("operation ", op), r, "e", -1, -1, 888)
			stands(t, "behind it", r, v.Meta(), v.Seq(), locked, false)
			v.tape.plan(0, 0, 0)
			opens(t, "again", r, "d", -1, 31, api.OK)
		}
	}
	r := v.load()
	v.tape.plan(4, 888, 0)
	opens(t, "what opens ahead of it", r, "d", -1, 31, api.OK)
}

// P10.5: with an error a ring that was open stays so.
func TestOpenKeeps(t *testing.T) {
	v := newVolume(t, 512, format())
	opens(t, "wrong", v.Ring, "x", -1, -1, api.ErrPass)
	opens(t, "none", v.Ring, "a", 3, -1, api.ErrSlot)
	if got, e := v.Master(); !bytes.Equal(got, v.master) || e != api.OK {
		t.Errorf("Master: error %d", e)
	}
	expect(t, "Unlock", v.Unlock(nil), api.ErrMaster)
	if v.Locked() {
		t.Errorf("it is locked")
	}
}

// P10.6: Unlock takes the master key and no other bytes; what Master tells it takes on every ring.
func TestUnlock(t *testing.T) {
	v := newVolume(t, 512, format(func(f *api.Format) { f.DigestTurns = 7 }))
	r := v.load()
	if m, e := r.Master(); len(m) != 0 || e != api.ErrLocked {
		t.Errorf("Master of a locked ring: %d bytes, error %d", len(m), e)
	}
	expect(t, "nothing", r.Unlock(nil), api.ErrMaster)
	expect(t, "31 bytes", r.Unlock(v.master[:31]), api.ErrMaster)
	expect(t, "33 bytes", r.Unlock(append(bytes.Clone(v.master), 0)), api.ErrMaster) // HMAC would take it for the same
	expect(t, "64 bytes", r.Unlock(append(bytes.Clone(v.master), make([]byte, 32)...)), api.ErrMaster)
	for i := range 256 {
		other := bytes.Clone(v.master)
		other[i/8] ^= 1 << (i % 8)
		expect(t, fmt.Sprint("bit ", i), r.Unlock(other), api.ErrMaster)
	}
	if !r.Locked() {
		t.Errorf("it is open")
	}
	expect(t, "the master key", r.Unlock(v.master), api.OK)
	m, e := r.Master()
	if r.Locked() || !bytes.Equal(m, v.master) || e != api.OK {
		t.Errorf("Master: error %d", e)
	}
	expect(t, "what Master tells", v.load().Unlock(m), api.OK)
	if len(v.tape.changes()) != 0 {
		t.Errorf("%v", v.tape.changes())
	}
}

// P10.6: Lock forgets the master key, also of a ring that was locked.
func TestLock(t *testing.T) {
	v := newVolume(t, 512, format())
	for range 2 {
		expect(t, "Lock", v.Lock(), api.OK)
		_, e := v.Master()
		expect(t, "Master", e, api.ErrLocked)
		_, e = v.Key(0)
		expect(t, "Key", e, api.ErrLocked)
		stands(t, "locked", v.Ring, v.meta, 1, true, false)
	}
	opens(t, "again", v.Ring, "a", -1, 0, api.OK)
	if k, e := v.Key(0); !bytes.Equal(k, v.key) || e != api.OK {
		t.Errorf("Key: error %d", e)
	}
}

// P10.18: the keys are the same whichever keyslot opened it.
func TestSameKeys(t *testing.T) {
	v := crowd(t, 2048)
	for slot, pass := range map[int]string{0: "a", 3: "a", 4: "a", 7: "b", 10: "b", 20: "c", 30: "c", 31: "d"} {
		r := v.load()
		opens(t, "each", r, pass, slot, slot, api.OK)
		m, e := r.Master()
		k, f := r.Key(0)
		if !bytes.Equal(m, v.master) || !bytes.Equal(k, v.key) || e != api.OK || f != api.OK {
			t.Errorf("keyslot %d: errors %d, %d", slot, e, f)
		}
	}
}
