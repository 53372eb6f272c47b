package keyring

import (
	"slices"
	"strings"

	"coffer/api"
	"coffer/header"
	"coffer/ledger"
	"coffer/spring"
)

// call is the face of all that needs a ring: it does the work, and what was thrown meanwhile ends here.
func (r *Ring) call(work func() api.Errno) (why api.Errno) {
	if r == nil {
		return api.ErrNil
	}
	if r.stuck {
		return api.ErrStuck
	}
	defer func() {
		if thrown := recover(); thrown != nil {
			why, r.stuck = caught(thrown)
		}
	}()
	return work()
}

// run does what a call writes, step by step: an error of the device is thrown, and no step behind it is done.
func run(steps []func()) {
	for _, step := range steps {
		step()
	}
}

// commit commits metadata, between what is written ahead of it and what behind it. Whether they may be committed is asked ahead of all that. They are the ring's own from then on.
func (r *Ring) commit(m api.Meta, ahead, behind []func()) api.Errno {
	text, e := ledger.Print(m)
	if e != api.OK {
		return api.ErrArg
	}
	c := api.HeadCopy{Head: m.Shape.Head, Seq: r.seq, Label: m.Label, Subsystem: m.Subsystem, UUID: m.UUID, Salt: m.HeadSalt}
	if e := refusedCopy(c, text); e != api.OK {
		return e
	}
	both := func() {
		done, e := header.Commit(r.disk.device, c, text)
		must(e, true)
		r.meta, r.seq = m, done.Seq
	}
	run(slices.Concat(ahead, []func(){both}, behind))
	return api.OK
}

// refusedCopy tells why a copy with the next number and that text cannot be laid down.
func refusedCopy(c api.HeadCopy, text string) api.Errno {
	c.Seq++
	c.Text = text
	_, e := header.Pack(c)
	return e
}

// load is what Load does with a ring that has nothing but its device.
func (r *Ring) load() api.Errno {
	d := r.disk.device
	c, _, e := header.Load(d, func(text string) bool {
		_, e, _ := ledger.Parse(text)
		return e == api.OK
	})
	if e != api.OK {
		return e
	}
	m, _, _ := ledger.Parse(c.Text)
	if m.Shape.Unit != d.Unit() || m.Shape.Count != d.Count() || m.Shape.Head != c.Head {
		return api.ErrDevShape
	}
	m.Label, m.Subsystem, m.UUID, m.HeadSalt = c.Label, c.Subsystem, c.UUID, c.Salt
	r.meta, r.seq = m, c.Seq
	return api.OK
}

// format is what Make does with a ring that has nothing but its device.
func (r *Ring) format(s *spring.Spring, f api.Format, pass []byte) api.Errno {
	d := r.disk.device
	shape := api.Shape{Unit: d.Unit(), Count: d.Count(), Head: f.Head, Keys: f.Keys}
	if e := refusedFormat(shape, f, pass); e != api.OK {
		return e
	}
	from := source{spring: s}
	m := api.Meta{Label: f.Label, Subsystem: f.Subsystem, UUID: f.UUID, Shape: shape}
	m.HeadSalt = string(from.draw(api.HeadSalt))
	master := from.draw(api.MasterSize)
	m.Digest = digestOf(master, f.DigestTurns, from.draw(api.SaltSize))
	m.Epochs = []api.Epoch{newEpoch(&from, 0, f.Cipher, master)}
	slot, content := newSlot(&from, f.Slot, 0, keysStart(shape), master, pass)
	if from.why != api.OK {
		return from.why
	}
	m.Slots = []api.Slot{slot}
	m.Segments = ledger.Segments(m)
	ahead := []func(){
		func() { must(header.Clear(d), true) },
		func() { run(r.disk.sweep(api.Meta{Shape: shape})) }, // it reads behind Clear, which has zeroed some of it
		r.disk.flush,
		r.disk.lay(slot.Area, content),
	}
	if e := r.commit(m, ahead, nil); e != api.OK {
		return e
	}
	r.master = master
	return api.OK
}

// refusedFormat tells why a volume cannot be made so.
func refusedFormat(shape api.Shape, f api.Format, pass []byte) api.Errno {
	_, e := ledger.Sectors(shape)
	switch {
	case e != api.OK || !isTurns(f.DigestTurns) || !isCipher(f.Cipher) || !optsMay(f.Slot) || !namesMay(f):
		return api.ErrArg
	case len(pass) > api.MaxPass:
		return api.ErrLong
	case ledger.SlotSize(f.Slot.Stripes) > int64(f.Keys):
		return api.ErrFullRing
	}
	return api.OK
}

// namesMay asks layer 8, by a copy that has nothing else that it could refuse.
func namesMay(f api.Format) bool {
	c := api.HeadCopy{Head: api.MinHead, Label: f.Label, Subsystem: f.Subsystem, UUID: f.UUID, Salt: strings.Repeat("s", api.HeadSalt)}
	return refusedCopy(c, "") == api.OK
}

// has tells whether there is a keyslot of that number.
func (r *Ring) has(number int) bool {
	_, there := numbered(r.meta.Slots, number, slotNumber)
	return there
}

// refused tells why no keyslot is made, as far as Add and Change ask it alike.
func (r *Ring) refused(s *spring.Spring, pass []byte, numberMay bool, o api.SlotOpts) api.Errno {
	switch {
	case r.Locked():
		return api.ErrLocked
	case s == nil:
		return api.ErrNil
	case !numberMay || !optsMay(o):
		return api.ErrArg
	case len(pass) > api.MaxPass:
		return api.ErrLong
	}
	return api.OK
}

// putSlot makes a keyslot at a free place, in the place of the one that had its number; behind its commit comes what is left to be written.
func (r *Ring) putSlot(s *spring.Spring, pass []byte, number int, o api.SlotOpts, behind []func()) api.Errno {
	offset, e := freePlace(r.meta, ledger.SlotSize(o.Stripes))
	if e != api.OK {
		return e
	}
	from := source{spring: s}
	slot, content := newSlot(&from, o, number, offset, r.master, pass)
	if from.why != api.OK {
		return from.why
	}
	m := copied(r.meta)
	m.Slots = with(m.Slots, slot, slotNumber)
	return r.commit(m, []func(){r.disk.lay(slot.Area, content)}, behind)
}
