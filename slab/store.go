package slab

import (
	"maps"

	"coffer/api"
)

// sector is what a sector holds, with room for the greatest unit; behind the slab's own unit it is zeros.
type sector [api.MaxUnit]byte

func sectorOf(data []byte) sector {
	var c sector
	copy(c[:], data)
	return c
}

// cut tells a unit's bytes, and leaves nobody the room behind them.
func (c *sector) cut(unit int) []byte { return c[:unit:unit] }

// store is sectors by number. One that is all zeros has no place in it, so that what was wiped needs no memory.
type store map[uint64]sector

func (m store) put(number uint64, c sector) {
	if c == (sector{}) {
		delete(m, number)
		return
	}
	m[number] = c
}

func (m store) turn(number uint64, bit int) {
	c := m[number]
	c[bit/8] ^= 1 << (bit % 8)
	m.put(number, c)
}

// log is the writes that are not durable, numbered from 0 on in the order in which they were made.
type log struct {
	sectors []uint64          // where each one went
	data    store             // by a write's number: what it wrote
	last    map[uint64]uint64 // by a sector's number: the last write to it
}

func newLog() log { return log{data: store{}, last: map[uint64]uint64{}} }

func (l *log) add(at uint64, c sector) {
	number := uint64(len(l.sectors))
	l.sectors = append(l.sectors, at)
	l.data.put(number, c)
	l.last[at] = number
}

// find tells what the last write to a sector wrote, if there is one.
func (l *log) find(at uint64) (sector, bool) {
	number, there := l.last[at]
	if !there {
		return sector{}, false
	}
	return l.data[number], true
}

// lay lays those writes that are kept over the medium, in their order, and forgets all of them.
func (l *log) lay(medium store, kept func(number int) bool) {
	for number, at := range l.sectors {
		if kept(number) {
			medium.put(at, l.data[uint64(number)])
		}
	}
	*l = newLog()
}

func (l *log) copy() log {
	return log{sectors: l.pending(), data: maps.Clone(l.data), last: maps.Clone(l.last)}
}

func (l *log) pending() []uint64 {
	out := make([]uint64, len(l.sectors))
	copy(out, l.sectors)
	return out
}
