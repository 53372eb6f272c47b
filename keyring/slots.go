package keyring

import (
	"slices"

	"coffer/api"
	"coffer/digest"
	"coffer/shred"
	"coffer/spring"
	"coffer/tweak"
)

// slotSector is how many bytes of a keyslot are sealed as one sector.
const slotSector = 512

// isSlot tells whether a keyslot can have that number.
func isSlot(n int) bool { return n >= 0 && n < api.MaxSlots }

// isPriority tells whether a keyslot can have that priority.
func isPriority(n int) bool { return n >= 0 && n <= 2 }

// isTurns tells whether a derivation can have so many iterations.
func isTurns(n int) bool { return n >= 1 && n <= api.MaxTurns }

// isCipher tells whether layer 3 knows the name.
func isCipher(name string) bool {
	_, e := tweak.KeySize(name)
	return e == api.OK
}

// keySize tells the bytes of a cipher's key; none of a name that is no cipher's.
func keySize(cipher string) int {
	n, _ := tweak.KeySize(cipher)
	return n
}

// optsMay tells whether a keyslot can be made so.
func optsMay(o api.SlotOpts) bool {
	return isPriority(o.Priority) && (o.Hash == api.Hash256 || o.Hash == api.Hash512) && isTurns(o.Turns) &&
		o.Stripes >= 1 && o.Stripes <= api.MaxStripes && keySize(o.Cipher) > 0
}

// source draws from a spring. Behind its first refusal, which it keeps, it draws nothing.
type source struct {
	spring *spring.Spring
	why    api.Errno
}

// draw gives n random bytes, or fewer and a refusal.
func (f *source) draw(n int) []byte {
	var out []byte
	for f.why == api.OK && len(out) < n {
		var b []byte
		b, f.why = f.spring.Draw(min(n-len(out), api.MaxDraw))
		out = append(out, b...)
	}
	return out
}

// What the layers below are asked with has been held to its bounds by optsMay, or by layer 9: where their errors are not looked at, there are none.

// digestOf gives what a master key is known by.
func digestOf(master []byte, turns int, salt []byte) api.KeyDigest {
	sum, _ := digest.Stretch(api.Hash256, master, salt, turns, api.DigestSize)
	return api.KeyDigest{Turns: turns, Salt: string(salt), Digest: string(sum)}
}

// isMaster tells whether a key is the one that is known by a digest.
func isMaster(d api.KeyDigest, key []byte) bool {
	if len(key) != api.MasterSize {
		return false
	}
	got := digestOf(key, d.Turns, []byte(d.Salt))
	return digest.Equal([]byte(got.Digest), []byte(d.Digest))
}

// newSlot gives a keyslot and the bytes of its area; nothing, if the source refuses.
func newSlot(from *source, o api.SlotOpts, number int, offset int64, master, pass []byte) (api.Slot, []byte) {
	n, _ := shred.Random(api.MasterSize, o.Stripes)
	salt := from.draw(api.SaltSize)
	random := from.draw(n)
	if from.why != api.OK {
		return api.Slot{}, nil
	}
	s := api.Slot{Number: number, Priority: o.Priority, Hash: o.Hash, Turns: o.Turns, Salt: string(salt), Cipher: o.Cipher, Stripes: o.Stripes}
	s.Area = api.Area{Offset: offset, Size: roundedUp(materialSize(s), api.AreaStep)}
	material, _ := shred.Split(s.Hash, master, s.Stripes, random)
	content := make([]byte, s.Area.Size)
	copy(content, material)
	shred.Wipe(material)
	c := slotCipher(s, pass)
	through(content[:sealedSize(s)], c.Seal)
	c.Wipe()
	return s, content
}

// tried gives the master key, if a passphrase opens a keyslot; else nothing.
func (r *Ring) tried(s api.Slot, pass []byte) []byte {
	area := api.Area{Offset: s.Area.Offset, Size: roundedUp(sealedSize(s), r.disk.unit())}
	content := r.disk.read(area)
	c := slotCipher(s, pass)
	through(content[:sealedSize(s)], c.Open)
	c.Wipe()
	master, _ := shred.Merge(s.Hash, content[:materialSize(s)], s.Stripes)
	shred.Wipe(content)
	if !isMaster(r.meta.Digest, master) {
		return nil
	}
	return master
}

// materialSize tells how many bytes the stripes have.
func materialSize(s api.Slot) int64 { return api.MasterSize * int64(s.Stripes) }

// sealedSize tells how many bytes of a keyslot's area are sealed.
func sealedSize(s api.Slot) int64 { return roundedUp(materialSize(s), slotSector) }

// roundedUp gives the least multiple of a step that is not below n.
func roundedUp(n, step int64) int64 { return (n + step - 1) / step * step }

// slotCipher gives a keyslot's cipher under the key that is derived from a passphrase.
func slotCipher(s api.Slot, pass []byte) *tweak.Cipher {
	key, _ := digest.Stretch(s.Hash, pass, []byte(s.Salt), s.Turns, keySize(s.Cipher))
	c, _ := tweak.New(s.Cipher, key)
	shred.Wipe(key)
	return c
}

// through puts what a cipher makes of each sector in its place.
func through(b []byte, change func(sector uint64, b []byte) ([]byte, api.Errno)) {
	sector := uint64(0)
	for part := range slices.Chunk(b, slotSector) {
		made, _ := change(sector, part)
		copy(part, made)
		sector++
	}
}

// asked gives the keyslots that a passphrase is tried with, one behind the other: the named one, or those by their priority, of which each has one above 0.
func asked(slots []api.Slot, number int) func(yield func(api.Slot) bool) {
	return func(yield func(api.Slot) bool) {
		if number != api.AnySlot {
			if s, there := numbered(slots, number, slotNumber); there {
				yield(s)
			}
			return
		}
		for priority := 2; priority > 0; priority-- {
			for _, s := range slots {
				if s.Priority == priority && !yield(s) {
					return
				}
			}
		}
	}
}

// freeNumber gives the least number that no keyslot has; MaxSlots, if all are taken.
func freeNumber(slots []api.Slot) int {
	for i, s := range slots {
		if s.Number != i {
			return i
		}
	}
	return len(slots)
}
