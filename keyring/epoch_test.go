package keyring_test

import (
	"bytes"
	"fmt"
	"math"
	"strings"
	"testing"

	"coffer/api"
	"coffer/ledger"
	"coffer/spring"
	"coffer/tweak"
)

// epochAs makes a record and holds it against the model: it, and its key.
func epochAs(t *testing.T, v *volume, number uint64, cipher string) (api.Epoch, []byte) {
	t.Helper()
	model := v.spring.Copy()
	nonce := drawn(t, model, 32)
	key := drawn(t, model, keySize(t, cipher))
	p, e := v.Epoch(v.spring, number, cipher)
	if want := modelEpoch(t, number, cipher, nonce, key, v.master); p != want || e != api.OK {
		t.Errorf("%s, %d: error %d, %#v, not %#v", cipher, number, e, p, want)
	}
	if !alike(v.spring, model) {
		t.Errorf("%s: more or less was drawn", cipher)
	}
	return p, key
}

// holdsEpoch gives metadata whose only epoch is this one.
func holdsEpoch(m api.Meta, p api.Epoch) api.Meta {
	return changed(m, func(m *api.Meta) {
		m.Epochs = []api.Epoch{p}
		m.Segments = ledger.Segments(*m)
	})
}

// P10.11, P10.12: the record of each cipher's key, and its key again; nothing is committed by Epoch.
func TestEpoch(t *testing.T) {
	v := newVolume(t, 512, format())
	for i, cipher := range tweak.Specs() {
		number := []uint64{0, 1, 255, 256, 1<<32 + 5, 1<<62 - 1, 1 << 62}[i%7]
		p, key := epochAs(t, v, number, cipher)
		if len(v.tape.asked) != 0 {
			t.Fatalf("%s: %v", cipher, v.tape.asked)
		}
		expect(t, "Commit", v.Commit(holdsEpoch(v.meta, p)), api.OK)
		r := v.load()
		opens(t, cipher, r, "a", -1, 0, api.OK)
		if got, e := r.Key(number); !bytes.Equal(got, key) || e != api.OK {
			t.Errorf("%s: Key: error %d", cipher, e)
		}
		for _, other := range []uint64{number + 1, number - 1, math.MaxUint64, 77} {
			if got, e := r.Key(other); len(got) != 0 || e != api.ErrEpoch {
				t.Errorf("%s: Key(%d): error %d", cipher, other, e)
			}
		}
		v.tape.asked = nil
	}
}

// P10.12: of two epochs each has its own key.
func TestKeyOfTwo(t *testing.T) {
	v := newVolume(t, 512, format())
	expect(t, "Commit", v.Commit(turning(t, v, api.Area{Offset: 36864, Size: 4096})), api.OK)
	k, e := v.Key(0)
	l, f := v.Key(7)
	if !bytes.Equal(k, v.key) || len(l) != 32 || bytes.Equal(k, l) || e != api.OK || f != api.OK {
		t.Errorf("errors %d, %d", e, f)
	}
	for _, n := range []uint64{1, 6, 8} {
		_, e := v.Key(n)
		expect(t, "another one", e, api.ErrEpoch)
	}
	v.Lock()
	for _, n := range []uint64{0, 1, 7} {
		k, e := v.Key(n)
		if len(k) != 0 || e != api.ErrLocked {
			t.Errorf("locked: error %d", e)
		}
	}
}

// P10.11: each refusal of Epoch, in their order; an empty record beside it.
func TestEpochRefused(t *testing.T) {
	type making struct {
		v      *volume
		spring *spring.Spring
		number uint64
		cipher string
	}
	all := []wrong[making]{
		{"stuck", 0, api.ErrStuck, func(a *making) { hitch(t, a.v) }},
		{"locked", 1, api.ErrLocked, func(a *making) { a.v.Lock() }},
		{"no spring", 2, api.ErrNil, func(a *making) { a.spring = nil }},
		{"too great", 3, api.ErrArg, func(a *making) { a.number = 1<<62 + 1 }},
		{"the greatest", 3, api.ErrArg, func(a *making) { a.number = math.MaxUint64 }},
		{"no cipher", 3, api.ErrArg, func(a *making) { a.cipher = "" }},
		{"another cipher", 3, api.ErrArg, func(a *making) { a.cipher = "aes128-ctr" }},
		{"no draw", 4, api.ErrThirst, func(a *making) { a.spring = thirsty(t, 0) }},
		{"a draw", 4, api.ErrThirst, func(a *making) { a.spring = thirsty(t, 1) }},
	}
	pairs(all, func(name string, want api.Errno, do ...func(a *making)) {
		v := newVolume(t, 512, format())
		a := making{v, fresh(t, 100), 1, "aes128-ecb"}
		for _, f := range do {
			f(&a)
		}
		v.tape.asked = nil
		before := a.spring.Copy()
		p, e := v.Epoch(a.spring, a.number, a.cipher)
		if e != want || p != (api.Epoch{}) || len(v.tape.asked) != 0 {
			t.Errorf("%s: error %d, not %d, %#v", name, e, want, p)
		}
		if e != api.ErrThirst && a.spring != nil && !alike(a.spring, before) {
			t.Errorf("%s: something was drawn", name)
		}
	})
	v := newVolume(t, 512, format())
	s := thirsty(t, 1)
	if p, e := v.Epoch(s, 1, "null"); e != api.OK || p.Sealed != "" || s.Left() != 0 {
		t.Errorf("one draw is enough for a key without bytes: error %d", e)
	}
}

// P10.12: a record whose sealed key, check, nonce, cipher or number is another one has no key.
func TestKeyCheck(t *testing.T) {
	v := newVolume(t, 512, format())
	for _, cipher := range []string{"aes128-xts-plain64", "null", "aes192-lrw-benbi"} {
		right, key := epochAs(t, v, 5, cipher)
		flip := func(s string, i int) string {
			b := []byte(s)
			b[i] ^= 1
			return string(b)
		}
		records := map[string]api.Epoch{}
		for i := range 32 {
			p := right
			p.Check = flip(p.Check, i)
			records[fmt.Sprint("check ", i)] = p
			p = right
			p.Nonce = flip(p.Nonce, i)
			records[fmt.Sprint("nonce ", i)] = p
		}
		for i := range len(right.Sealed) {
			p := right
			p.Sealed = flip(p.Sealed, i)
			records[fmt.Sprint("sealed ", i)] = p
		}
		p := right
		p.Number = 6
		records["number"] = p
		for _, other := range tweak.Specs() { // one whose key has as many bytes
			if keySize(t, other) == keySize(t, cipher) && other != cipher {
				p := right
				p.Cipher = other
				records["cipher"] = p
			}
		}
		for name, p := range records {
			expect(t, name, v.Commit(holdsEpoch(v.meta, p)), api.OK)
			if k, e := v.Key(p.Number); len(k) != 0 || e != api.ErrCheck {
				t.Errorf("%s, %s: %d bytes, error %d", cipher, name, len(k), e)
			}
		}
		expect(t, "Commit", v.Commit(holdsEpoch(v.meta, right)), api.OK)
		if k, e := v.Key(5); !bytes.Equal(k, key) || e != api.OK {
			t.Errorf("%s: error %d", cipher, e)
		}
	}
}

// P10.12: a key that was wrapped rightly, but whose check is of another one.
func TestKeyOtherCheck(t *testing.T) {
	v := newVolume(t, 512, format())
	nonce := []byte(strings.Repeat("n", 32))
	one := modelEpoch(t, 3, "aes128-ecb", nonce, []byte(strings.Repeat("k", 16)), v.master)
	two := modelEpoch(t, 3, "aes128-ecb", nonce, []byte(strings.Repeat("l", 16)), v.master)
	for _, x := range []struct {
		sealed, check api.Epoch
		e             api.Errno
	}{{one, one, api.OK}, {two, two, api.OK}, {one, two, api.ErrCheck}, {two, one, api.ErrCheck}} {
		p := x.sealed
		p.Check = x.check.Check
		expect(t, "Commit", v.Commit(holdsEpoch(v.meta, p)), api.OK)
		_, e := v.Key(3)
		expect(t, "Key", e, x.e)
	}
}
