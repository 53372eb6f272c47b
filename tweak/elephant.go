package tweak

import (
	"math/bits"
	"slices"

	"coffer/rijndael"
)

// elephant is cbc of a sector whose bytes are first spread over all of it.
type elephant struct {
	cbc
	other *rijndael.Key
}

func newElephant(s *shared, first begin) (seal, open change) {
	m := elephant{cbc{s, first}, s.schedule(s.rest())}
	return m.seal, m.open
}

func (m elephant) seal(sector uint64, plain []byte) []byte {
	text := slices.Clone(plain)
	xorRound(text, m.sectorKey(sector, len(text)))
	d := words(text)
	firstDiffuser().takeOff(d)
	secondDiffuser().takeOff(d)
	return m.cbc.seal(sector, spell(d))
}

func (m elephant) open(sector uint64, sealed []byte) []byte {
	d := words(m.cbc.open(sector, sealed))
	secondDiffuser().putOn(d)
	firstDiffuser().putOn(d)
	text := spell(d)
	xorRound(text, m.sectorKey(sector, len(text)))
	return text
}

// sectorKey tells the 32 bytes that are laid over a sector of n bytes.
func (m elephant) sectorKey(sector uint64, n int) []byte {
	place := firstByte(sector, n)
	low := under(m.other, place)
	place[len(place)-1] = 128
	high := under(m.other, place)
	return slices.Concat(low[:], high[:])
}

// diffuser changes each word of a sector by two others, so many places behind it.
type diffuser struct {
	times     int
	near, far int
	turns     [4]int // by how many bits the farther one is rotated, by the word's place modulo 4
}

func firstDiffuser() diffuser { return diffuser{5, -2, -5, [4]int{9, 0, 13, 0}} }

func secondDiffuser() diffuser { return diffuser{3, 2, 5, [4]int{0, 10, 0, 25}} }

// others tells what the word at place i is changed by.
func (f diffuser) others(d []uint32, i int) uint32 {
	near, far := d[round(i+f.near, len(d))], d[round(i+f.far, len(d))]
	return near ^ bits.RotateLeft32(far, f.turns[i%4])
}

// takeOff goes from the last word to the first.
func (f diffuser) takeOff(d []uint32) {
	for range f.times {
		for i := len(d) - 1; i >= 0; i-- {
			d[i] -= f.others(d, i)
		}
	}
}

// putOn undoes takeOff: it goes the other way.
func (f diffuser) putOn(d []uint32) {
	for range f.times {
		for i := range d {
			d[i] += f.others(d, i)
		}
	}
}

// round tells a place modulo m, which is not far off: cheaper than a division.
func round(i, m int) int {
	for i < 0 {
		i += m
	}
	for i >= m {
		i -= m
	}
	return i
}

// words tells a sector as numbers of 32 bits, lowest byte first.
func words(text []byte) []uint32 {
	d := make([]uint32, len(text)/4)
	for i := range d {
		b := text[4*i : 4*i+4 : 4*i+4]
		d[i] = uint32(b[0]) | uint32(b[1])<<8 | uint32(b[2])<<16 | uint32(b[3])<<24
	}
	return d
}

// spell undoes words.
func spell(d []uint32) []byte {
	text := make([]byte, 0, 4*len(d))
	for _, v := range d {
		text = append(text, byte(v), byte(v>>8), byte(v>>16), byte(v>>24))
	}
	return text
}
