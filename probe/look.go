package probe

import (
	"iter"
	"slices"

	"coffer/api"
	"coffer/digest"
	"coffer/header"
	"coffer/ledger"
	"coffer/rekey"
	"coffer/spring"
)

const (
	span        = 4096 // the most sectors of one call of the device
	journalSlot = -1   // stands for the rotation where a keyslot's number would
)

// view is a device that is looked at, and what was seen of it.
type view struct {
	device api.Device
	seen   api.Seen
}

// failed is what is thrown where the device has answered an error.
type failed struct {
	why api.Errno
}

// must goes on only where there is no error.
func must(why api.Errno) {
	if why != api.OK {
		panic(failed{why})
	}
}

// look sees all that is there: the error that ended it.
func (v *view) look() (why api.Errno) {
	defer func() {
		switch f := recover().(type) {
		case nil:
		case failed:
			why = f.why
		default:
			why = api.ErrPanic
		}
	}()
	found, e := header.Scan(v.device)
	must(e)
	v.seen.Unit, v.seen.Count = v.device.Unit(), v.device.Count()
	first, second := sideOf(found.First), sideOf(found.Second)
	v.seen.First, v.seen.Second = first.seen, second.seen
	v.seen.Takes, _ = header.Choose(found, first.isWell(), second.isWell())
	switch v.seen.Takes {
	case 1:
		v.take(first, second)
	case 2:
		v.take(second, first)
	}
	return api.OK
}

// side is a copy's place: what was found there, and what that says.
type side struct {
	copy api.HeadCopy
	seen api.SeenCopy
	meta api.Meta
}

func sideOf(found api.HeadSide) side {
	if found.Why != api.OK {
		return side{seen: api.SeenCopy{Why: found.Why}}
	}
	c := found.Copy
	m, e, place := ledger.Parse(c.Text)
	m.Label, m.Subsystem, m.UUID, m.HeadSalt = c.Label, c.Subsystem, c.UUID, c.Salt
	return side{copy: c, meta: m, seen: api.SeenCopy{Text: e, Place: place, Seq: c.Seq, Head: c.Head, Long: len(c.Text)}}
}

// isWell tells whether its metadata are there.
func (s side) isWell() bool { return s.seen.Why == api.OK && s.seen.Text == api.OK }

// isTwin tells whether the other place holds the bytes that the copy's twin has. No byte is needed for that: a copy says all of its bytes, and where no good one was found, there is no twin.
func (s side) isTwin(other side) bool {
	twin := s.copy
	twin.Second = !twin.Second
	return other.copy == twin
}

// take tells what the copy that counts says, and what lies where it says.
func (v *view) take(taken, other side) {
	v.seen.Meta = taken.meta
	if other.isWell() {
		v.seen.Both, v.seen.Other = true, other.meta
	}
	v.seen.Mends = !taken.isTwin(other)
	shape := taken.meta.Shape
	v.seen.Fits = shape.Unit == v.seen.Unit && shape.Count == v.seen.Count && shape.Head == taken.copy.Head
	if v.seen.Fits {
		v.areas()
		v.free()
		v.step()
	}
}

func (v *view) areas() {
	for _, s := range v.seen.Meta.Slots {
		v.area(s.Number, s.Area)
	}
	if r := v.seen.Meta.Rotation; r.On {
		v.area(journalSlot, r.Area)
	}
}

// area tells what lies in one of them.
func (v *view) area(slot int, a api.Area) {
	start, count := sectors(a, v.seen.Unit)
	var tested []byte
	zero := true
	for part := range v.read(start, count) {
		zero = zero && isZeros(part)
		tested = append(tested, part[:min(len(part), api.MaxTested-len(tested))]...)
		if !zero && len(tested) == api.MaxTested {
			break // what is behind it makes no difference
		}
	}
	health, e := spring.Test(tested)
	must(e)
	v.seen.Areas = append(v.seen.Areas, api.SeenArea{Slot: slot, Area: a, Zero: zero, Judge: spring.Judge(health)})
}

// free counts the sectors that hold something in no area.
func (v *view) free() {
	spots, e := Spots(v.seen.Meta)
	must(e)
	for _, s := range spots {
		if s.Kind != api.SpotFree {
			continue
		}
		for part := range v.read(s.Start, s.Count) {
			v.seen.Dirty += v.dirty(part)
		}
	}
}

func (v *view) dirty(part []byte) uint64 {
	var n uint64
	for sector := range slices.Chunk(part, v.seen.Unit) {
		if !isZeros(sector) {
			n++
		}
	}
	return n
}

// step tells how a step stands that is in the midst.
func (v *view) step() {
	r := v.seen.Meta.Rotation
	if !r.Active {
		return
	}
	journal := v.journal(r)
	switch {
	case sum(journal) != r.Sum:
		v.seen.Journal = api.ErrJournal
	case r.Mode == api.ByDigests:
		v.seen.Moved = v.moved(journal)
	}
}

// journal gives the bytes that the rotation's Sum is of.
func (v *view) journal(r api.Rotation) []byte {
	unit := uint64(v.seen.Unit)
	size := r.Count * unit
	if r.Mode == api.ByDigests {
		size = r.Count * api.DigestSize
	}
	start, _ := sectors(r.Area, v.seen.Unit)
	var journal []byte
	for part := range v.read(start, (size+unit-1)/unit) {
		journal = append(journal, part...)
	}
	return journal[:size]
}

// moved counts the hotzone's sectors that are not those of which the journal has the digests.
func (v *view) moved(journal []byte) uint64 {
	first, count, e := rekey.Next(v.seen.Meta)
	must(e)
	var n uint64
	for part := range v.read(dataStart(v.seen.Meta.Shape)+first, count) {
		for sector := range slices.Chunk(part, v.seen.Unit) {
			if sum(sector) != string(journal[:api.DigestSize]) {
				n++
			}
			journal = journal[api.DigestSize:]
		}
	}
	return n
}

// read gives sectors of the device, as many at a time as one call reads. A part is overwritten by the next one.
func (v *view) read(start, count uint64) iter.Seq[[]byte] {
	unit := uint64(v.seen.Unit)
	return func(yield func([]byte) bool) {
		room := make([]byte, min(count, span)*unit)
		for at, end := start, start+count; at < end; at += span {
			part := room[:min(end-at, span)*unit]
			must(v.device.Read(at, part))
			if !yield(part) {
				return
			}
		}
	}
}

func isZeros(b []byte) bool {
	for _, x := range b {
		if x != 0 {
			return false
		}
	}
	return true
}

// sum tells what bytes are known by.
func sum(b []byte) string {
	s, e := digest.Sum(api.Hash256, b)
	must(e)
	return string(s)
}
