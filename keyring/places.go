package keyring

import (
	"cmp"
	"slices"

	"coffer/api"
)

// keysStart tells at which byte of the device the keyslots area begins.
func keysStart(s api.Shape) int64 { return 2 * int64(s.Head) }

// areas gives all areas of metadata, by rising place.
func areas(m api.Meta) []api.Area {
	var all []api.Area
	for _, s := range m.Slots {
		all = append(all, s.Area)
	}
	if m.Rotation.On {
		all = append(all, m.Rotation.Area)
	}
	slices.SortFunc(all, func(a, b api.Area) int { return cmp.Compare(a.Offset, b.Offset) })
	return all
}

// gaps gives what is unclaimed, by rising place.
func gaps(m api.Meta) func(yield func(api.Area) bool) {
	return func(yield func(api.Area) bool) {
		at := keysStart(m.Shape)
		end := api.Area{Offset: at + int64(m.Shape.Keys)}
		for _, a := range append(areas(m), end) {
			if a.Offset > at && !yield(api.Area{Offset: at, Size: a.Offset - at}) {
				return
			}
			at = a.Offset + a.Size
		}
	}
}

// freePlace gives the free place of a size. Areas begin and end at whole steps, so each gap does.
func freePlace(m api.Meta, size int64) (int64, api.Errno) {
	for gap := range gaps(m) {
		if gap.Size >= size {
			return gap.Offset, api.OK
		}
	}
	return -1, api.ErrFullRing
}
