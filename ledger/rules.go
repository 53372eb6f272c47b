package ledger

import (
	"cmp"
	"slices"
	"unicode/utf8"

	"coffer/api"
	"coffer/tweak"
)

// wrapped is how many bytes a sealed key has more than the key.
const wrapped = 8

// isUnit tells whether a sector can have so many bytes.
func isUnit(n int) bool {
	switch n {
	case 512, 1024, 2048, 4096:
		return true
	}
	return false
}

// isHead tells whether a header copy can have so many bytes.
func isHead(n int) bool {
	return n >= api.MinHead && n <= api.MaxHead && n&(n-1) == 0
}

// isTurns tells whether a derivation can have so many iterations.
func isTurns(n int) bool { return n >= 1 && n <= api.MaxTurns }

// isText tells whether a text is UTF-8, and of at most so many bytes.
func isText(text string, most int) bool {
	return len(text) <= most && utf8.ValidString(text)
}

// roundedUp gives the least multiple of AreaStep that is not below n.
func roundedUp(n int64) int64 {
	return (n + api.AreaStep - 1) / api.AreaStep * api.AreaStep
}

// keysStart tells at which byte of the device the keyslots area begins.
func keysStart(s api.Shape) int64 { return 2 * int64(s.Head) }

// dataStart tells at which byte of the device the data begin.
func dataStart(s api.Shape) int64 { return keysStart(s) + int64(s.Keys) }

// shapeMay tells whether a shape may be. What is multiplied is held to its bounds first.
func shapeMay(s api.Shape) bool {
	return isUnit(s.Unit) && isHead(s.Head) &&
		s.Keys >= api.AreaStep && s.Keys <= api.MaxKeys && s.Keys%api.AreaStep == 0 &&
		s.Count <= api.MaxSectors && int64(s.Count)*int64(s.Unit) > dataStart(s)
}

// inRow gives segments one behind the other from sector 0 on, without those that have none.
func inRow(parts ...api.Segment) []api.Segment {
	var row []api.Segment
	start := uint64(0)
	for _, s := range parts {
		if s.Count > 0 {
			s.Start = start
			row = append(row, s)
		}
		start += s.Count
	}
	return row
}

// rising tells whether each item of a list has a number, and it is above that of the one ahead of it.
func rising[T any, N cmp.Ordered](list []T, rank func(T) (N, bool)) bool {
	var ahead N
	for i, item := range list {
		n, may := rank(item)
		if !may || i > 0 && n <= ahead {
			return false
		}
		ahead = n
	}
	return true
}

// slotNumber tells whether a keyslot can have that number.
func slotNumber(n int) (int, bool) { return n, n >= 0 && n < api.MaxSlots }

// The rules below are asked in the order of Check's list: each leans on those ahead of it.

func shapeOf(m api.Meta) bool { return shapeMay(m.Shape) }

func digestMay(m api.Meta) bool {
	d := m.Digest
	return isTurns(d.Turns) && len(d.Salt) == api.SaltSize && len(d.Digest) == api.DigestSize
}

func slotsMay(m api.Meta) bool {
	if len(m.Slots) == 0 || len(m.Slots) > api.MaxSlots {
		return false
	}
	return rising(m.Slots, func(s api.Slot) (int, bool) {
		n, may := slotNumber(s.Number)
		return n, may && slotMay(s)
	})
}

// slotMay asks what a keyslot has beside its number and its area.
func slotMay(s api.Slot) bool {
	size, e := tweak.KeySize(s.Cipher)
	return s.Priority >= 0 && s.Priority <= 2 &&
		(s.Hash == api.Hash256 || s.Hash == api.Hash512) &&
		isTurns(s.Turns) && len(s.Salt) == api.SaltSize &&
		e == api.OK && size > 0 && SlotSize(s.Stripes) > 0
}

func epochsMay(m api.Meta) bool {
	count := 1
	if m.Rotation.On {
		count = 2
	}
	return len(m.Epochs) == count && rising(m.Epochs, func(p api.Epoch) (uint64, bool) {
		return p.Number, p.Number <= api.MaxEpoch && epochMay(p)
	})
}

// epochMay asks what an epoch has beside its number.
func epochMay(p api.Epoch) bool {
	size, e := tweak.KeySize(p.Cipher)
	if size > 0 {
		size += wrapped
	}
	return e == api.OK && len(p.Nonce) == api.DigestSize && len(p.Sealed) == size && len(p.Check) == api.DigestSize
}

func rotationMay(m api.Meta) bool {
	r := m.Rotation
	if !r.On {
		return r == api.Rotation{}
	}
	n, _ := Sectors(m.Shape)
	return r.From == m.Epochs[0].Number && r.To == m.Epochs[1].Number &&
		journalNeed(m) > 0 && r.Done <= n && stepMay(r, n)
}

// journalNeed tells the bytes that the rotation's area needs; 0, if its mode or its hotzone may not be.
func journalNeed(m api.Meta) int64 {
	return JournalSize(m.Rotation.Mode, m.Rotation.Hot, m.Shape.Unit)
}

// stepMay asks what tells of a step in the midst, of n sectors of data.
func stepMay(r api.Rotation, n uint64) bool {
	if !r.Active {
		return r.Count == 0 && r.Sum == ""
	}
	return r.Done < n && r.Count == min(r.Hot, n-r.Done) && len(r.Sum) == api.DigestSize
}

func segmentsMay(m api.Meta) bool { return slices.Equal(m.Segments, Segments(m)) }

func areasMay(m api.Meta) bool {
	var areas []api.Area
	for _, s := range m.Slots {
		if s.Area.Size != SlotSize(s.Stripes) {
			return false
		}
		areas = append(areas, s.Area)
	}
	if r := m.Rotation; r.On {
		if r.Area.Size < journalNeed(m) {
			return false
		}
		areas = append(areas, r.Area)
	}
	for i, a := range areas {
		if !liesWithin(a, m.Shape) || meetsOne(a, areas[:i]) {
			return false
		}
	}
	return true
}

// liesWithin tells whether an area, whose size is above 0, is whole steps of the keyslots area. Nothing is added to what could be too great for it.
func liesWithin(a api.Area, s api.Shape) bool {
	return a.Offset%api.AreaStep == 0 && a.Size%api.AreaStep == 0 &&
		a.Offset >= keysStart(s) && a.Offset <= dataStart(s)-a.Size
}

// meetsOne tells whether an area has a byte in common with one of others; all lie within the keyslots area.
func meetsOne(a api.Area, others []api.Area) bool {
	return slices.ContainsFunc(others, func(b api.Area) bool {
		return a.Offset < b.Offset+b.Size && b.Offset < a.Offset+a.Size
	})
}

func tokensMay(m api.Meta) bool {
	if len(m.Tokens) > api.MaxTokens {
		return false
	}
	return rising(m.Tokens, func(t api.Token) (int, bool) {
		return t.Number, TokenMay(t) && slotsAre(t.Slots, m.Slots)
	})
}

// slotsAre tells whether there is a keyslot of each of these numbers.
func slotsAre(numbers []int, slots []api.Slot) bool {
	for _, n := range numbers {
		if !slices.ContainsFunc(slots, func(s api.Slot) bool { return s.Number == n }) {
			return false
		}
	}
	return true
}
