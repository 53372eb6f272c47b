package probe

import (
	"cmp"
	"slices"

	"coffer/api"
)

// claimed gives what lies on a device of metadata that may be, by rising Start, but for what is free.
func claimed(m api.Meta) []api.Spot {
	head := uint64(m.Shape.Head) / uint64(m.Shape.Unit)
	data := dataStart(m.Shape)
	spots := []api.Spot{
		{Kind: api.SpotFirst, Count: head},
		{Kind: api.SpotSecond, Start: head, Count: head},
	}
	for _, s := range m.Slots {
		start, count := sectors(s.Area, m.Shape.Unit)
		spots = append(spots, api.Spot{Kind: api.SpotSlot, Number: uint64(s.Number), Start: start, Count: count})
	}
	if m.Rotation.On {
		start, count := sectors(m.Rotation.Area, m.Shape.Unit)
		spots = append(spots, api.Spot{Kind: api.SpotJournal, Number: m.Rotation.To, Start: start, Count: count})
	}
	for _, s := range m.Segments {
		spots = append(spots, api.Spot{Kind: api.SpotData, Number: s.Epoch, Start: data + s.Start, Count: s.Count})
	}
	slices.SortFunc(spots, func(a, b api.Spot) int { return cmp.Compare(a.Start, b.Start) })
	return spots
}

// dataStart tells which of the device's sectors is the data's first one.
func dataStart(s api.Shape) uint64 { return (2*uint64(s.Head) + uint64(s.Keys)) / uint64(s.Unit) }

// sectors tells where an area lies: its first sector, and how many it has.
func sectors(a api.Area, unit int) (uint64, uint64) {
	return uint64(a.Offset) / uint64(unit), uint64(a.Size) / uint64(unit)
}

// withFree puts what is free between the others. That is in the keyslots area alone: the headers and the data have no gap, and the data stand last.
func withFree(spots []api.Spot) []api.Spot {
	var all []api.Spot
	var at uint64
	for _, s := range spots {
		if s.Start > at {
			all = append(all, api.Spot{Kind: api.SpotFree, Start: at, Count: s.Start - at})
		}
		all = append(all, s)
		at = s.Start + s.Count
	}
	return all
}
