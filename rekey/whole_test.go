package rekey_test

import (
	"bytes"
	"fmt"
	"math/rand"
	"testing"

	"coffer/api"
	"coffer/keyring"
	"coffer/rekey"
	"coffer/slab"
	"coffer/spring"
	"coffer/tweak"
)

// P13.8 with a Commit that is the keyring's: the header is on the same device, and its commits are cut short by the same crashes.

// made gives a slab with a volume of so many sectors on it, its data sealed, its rotation begun; and the master key.
func made(t *testing.T, n int, turn api.Turn) (*slab.Slab, []byte) {
	t.Helper()
	s, _ := slab.New(512, uint64((32768+16384)/512+n))
	source, e := spring.New(api.Hash256, 1000, bytes.Repeat([]byte("entropy!"), 8), []byte("nonce"), nil)
	if e != api.OK {
		t.Fatal(e)
	}
	slot := api.SlotOpts{Priority: 1, Hash: 256, Turns: 1, Cipher: "aes128-ecb", Stripes: 2}
	ring, e := keyring.Make(s, source, api.Format{Label: "v", UUID: "u", Head: 16384, Keys: 16384, Cipher: "aes128-xts-plain64", DigestTurns: 1, Slot: slot}, []byte("pass"))
	if e != api.OK {
		t.Fatalf("Make: %d", e)
	}
	master, _ := ring.Master()
	c := keyOf(t, ring, 0)
	for i := range n {
		b, _ := c.Seal(uint64(i), plain(512, uint64(i)))
		s.Write(uint64((32768+16384)/512+i), b)
	}
	to, e := ring.Epoch(source, 1, turn.Cipher)
	if e != api.OK {
		t.Fatalf("Epoch: %d", e)
	}
	size, _ := rekey.Room(512, turn.Mode, turn.Hot)
	place, e := keyring.Free(ring.Meta(), size)
	if e != api.OK {
		t.Fatalf("Free: %d", e)
	}
	m, e := rekey.Begin(ring.Meta(), to, api.Area{Offset: place, Size: size}, turn)
	if e != api.OK {
		t.Fatalf("Begin: %d", e)
	}
	if e := ring.Commit(m); e != api.OK {
		t.Fatalf("Commit: %d", e)
	}
	return s, master
}

// keyOf gives an epoch's cipher.
func keyOf(t *testing.T, ring *keyring.Ring, number uint64) *tweak.Cipher {
	t.Helper()
	key, e := ring.Key(number)
	if e != api.OK {
		t.Fatalf("Key: %d", e)
	}
	for _, p := range ring.Meta().Epochs {
		if p.Number == number {
			c, e := tweak.New(p.Cipher, key)
			if e != api.OK {
				t.Fatalf("New: %d", e)
			}
			return c
		}
	}
	t.Fatal("no such epoch")
	return nil
}

// opened holds each sector of the data, opened by its segment's key, against what it was.
func opened(t *testing.T, name string, s *slab.Slab, ring *keyring.Ring) {
	t.Helper()
	for _, g := range ring.Meta().Segments {
		c := keyOf(t, ring, g.Epoch)
		for i := g.Start; i < g.Start+g.Count; i++ {
			b, _ := s.Peek((32768+16384)/512 + i)
			if p, e := c.Open(i, b); e != api.OK || !bytes.Equal(p, plain(512, i)) {
				t.Fatalf("%s: sector %d, error %d", name, i, e)
			}
		}
	}
}

// lived loads, recovers and steps till the power goes, or all is over.
func lived(t *testing.T, name string, s *slab.Slab, b api.Device, master []byte) bool {
	t.Helper()
	ring, e := keyring.Load(b)
	if e == api.ErrOff {
		return false
	}
	if e != api.OK || ring.Unlock(master) != api.OK {
		t.Fatalf("%s: Load: %d", name, e)
	}
	w := rekey.Work{Device: b, Workers: 3, Commit: ring.Commit}
	m := ring.Meta()
	if m.Rotation.On {
		w.From, w.To = keyOf(t, ring, 0), keyOf(t, ring, 1)
	}
	if m.Rotation.Active {
		m, e = rekey.Recover(w, m)
	}
	for e == api.OK && m.Rotation.On {
		if !same(m, ring.Meta()) {
			t.Fatalf("%s: %v is not what was committed", name, m)
		}
		opened(t, name, s, ring)
		m, _, e = rekey.Step(w, m)
	}
	if e != api.OK && e != api.ErrOff {
		t.Fatalf("%s: error %d", name, e)
	}
	if e == api.OK {
		opened(t, name, s, ring)
		if p := ring.Meta().Epochs; len(p) != 1 || p[0].Number != 1 {
			t.Fatalf("%s: epochs %v", name, p)
		}
	}
	return e == api.OK
}

func TestWholeVolume(t *testing.T) {
	for _, mode := range []int{1, 2} {
		for _, back := range []bool{false, true} {
			t.Run(fmt.Sprint(mode, back), func(t *testing.T) {
				t.Parallel()
				rnd := rand.New(rand.NewSource(int64(mode)))
				base, master := made(t, 7, api.Turn{Cipher: "aes256-cbc-essiv:sha256", Mode: mode, Hot: 3, Back: back})
				for try := range 60 {
					b := &bench{Slab: base.Copy()}
					for over := false; !over; {
						b.left, b.spared = 1+rnd.Intn(40), rnd.Intn(5)
						over = lived(t, fmt.Sprint("try ", try), b.Slab, b, master)
						share := rnd.Intn(5)
						b.crash(func(int) bool { return rnd.Intn(4) < share }, false)
					}
				}
			})
		}
	}
}
