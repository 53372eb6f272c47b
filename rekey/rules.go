package rekey

import (
	"iter"
	"slices"

	"coffer/api"
)

// isUnit tells whether a sector can have so many bytes.
func isUnit(n int) bool {
	switch n {
	case 512, 1024, 2048, 4096:
		return true
	}
	return false
}

// isHead tells whether a header copy can have so many bytes.
func isHead(n int) bool {
	return n >= api.MinHead && n <= api.MaxHead && n&(n-1) == 0
}

func isMode(mode int) bool { return mode == api.ByJournal || mode == api.ByDigests }

// isHot tells whether a hotzone can have so many sectors.
func isHot(n uint64) bool { return n >= 1 && n <= api.MaxHot }

// roundedUp gives the least multiple of step that is not below n.
func roundedUp(n, step int64) int64 { return (n + step - 1) / step * step }

// sumSize tells how many bytes of a journal of so many sectors its sum is of.
func sumSize(unit, mode int, count uint64) int64 {
	if mode == api.ByDigests {
		return int64(count) * api.DigestSize
	}
	return int64(count) * int64(unit)
}

// journalSize tells the bytes of that journal: whole sectors.
func journalSize(unit, mode int, count uint64) int64 {
	return roundedUp(sumSize(unit, mode, count), int64(unit))
}

// keysStart tells at which byte of the device the keyslots area begins.
func keysStart(s api.Shape) int64 { return 2 * int64(s.Head) }

// dataStart tells at which byte of the device the data begin.
func dataStart(s api.Shape) int64 { return keysStart(s) + int64(s.Keys) }

// shapeMay tells whether a shape may be. What is multiplied is held to its bounds first.
func shapeMay(s api.Shape) bool {
	return isUnit(s.Unit) && isHead(s.Head) &&
		s.Keys >= api.AreaStep && s.Keys <= api.MaxKeys && s.Keys%api.AreaStep == 0 &&
		s.Count <= api.MaxSectors && int64(s.Count)*int64(s.Unit) > dataStart(s)
}

// firstSector tells which of the device's sectors is the data's first one.
func firstSector(s api.Shape) uint64 { return uint64(dataStart(s)) / uint64(s.Unit) }

// sectors tells how many sectors of data a shape has that may be.
func sectors(s api.Shape) uint64 { return s.Count - firstSector(s) }

// areaMay tells whether the journals of such a rotation can lie in an area. Nothing is added to what could be too great for it.
func areaMay(s api.Shape, a api.Area, mode int, hot uint64) bool {
	need, e := Room(s.Unit, mode, hot)
	return e == api.OK && a.Size >= need &&
		a.Offset%api.AreaStep == 0 && a.Size%api.AreaStep == 0 &&
		a.Offset >= keysStart(s) && a.Offset <= dataStart(s)-a.Size
}

// numbered gives the epochs that have a number.
func numbered(all []api.Epoch, number uint64) []api.Epoch {
	var found []api.Epoch
	for _, p := range all {
		if p.Number == number {
			found = append(found, p)
		}
	}
	return found
}

func isOnlyOne(all []api.Epoch, number uint64) bool { return len(numbered(all, number)) == 1 }

// isNewest tells whether an epoch's number is above that of each other one.
func isNewest(all []api.Epoch, to api.Epoch) bool {
	return !slices.ContainsFunc(all, func(p api.Epoch) bool { return p.Number >= to.Number })
}

// isOnePiece tells whether all data are under the key of one epoch that is known by its number.
func isOnePiece(m api.Meta) bool {
	return len(m.Segments) == 1 &&
		m.Segments[0] == api.Segment{Count: sectors(m.Shape), Epoch: m.Segments[0].Epoch} &&
		isOnlyOne(m.Epochs, m.Segments[0].Epoch)
}

// canBeWorkedOn tells it of metadata whose rotation is on: all that ask have seen that first.
func canBeWorkedOn(m api.Meta) bool {
	r := m.Rotation
	if !shapeMay(m.Shape) || !areaMay(m.Shape, r.Area, r.Mode, r.Hot) {
		return false
	}
	n := sectors(m.Shape)
	return r.Done <= n && stepMay(n, r) && isJust(m.Segments, segments(n, r)) &&
		r.From < r.To && isOnlyOne(m.Epochs, r.From) && isOnlyOne(m.Epochs, r.To)
}

// stepMay asks what a rotation tells of a step in the midst.
func stepMay(n uint64, r api.Rotation) bool {
	if !r.Active {
		return r.Count == 0 && r.Sum == ""
	}
	_, count := hotzone(n, r)
	return count > 0 && r.Count == count && len(r.Sum) == api.DigestSize
}

// hotzone gives the first sector and the number of those that are next.
func hotzone(n uint64, r api.Rotation) (uint64, uint64) {
	left := n - r.Done
	count := min(r.Hot, left)
	if r.Back {
		return left - count, count
	}
	return r.Done, count
}

// segments gives what lies under the old key and under the new one, by rising Start.
func segments(n uint64, r api.Rotation) iter.Seq[api.Segment] {
	row := [2]api.Segment{{Count: r.Done, Epoch: r.To}, {Count: n - r.Done, Epoch: r.From}}
	if r.Back {
		row[0], row[1] = row[1], row[0]
	}
	row[1].Start = row[0].Count
	return func(yield func(api.Segment) bool) {
		for _, s := range row {
			if s.Count > 0 && !yield(s) {
				return
			}
		}
	}
}

// refused tells why nothing can be worked on so, whatever the metadata.
func refused(w Work) api.Errno {
	switch {
	case w.Device == nil || w.From == nil || w.To == nil || w.Commit == nil:
		return api.ErrNil
	case w.Workers < 1 || w.Workers > api.MaxWorkers:
		return api.ErrArg
	}
	return api.OK
}

// isOf tells whether a device is the one that a shape is of.
func isOf(d api.Device, s api.Shape) bool {
	return d.Unit() == s.Unit && d.Count() == s.Count
}
