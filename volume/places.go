package volume

import (
	"iter"

	"coffer/api"
)

// firstSector tells which of the device's sectors is the data's first one.
func firstSector(s api.Shape) uint64 {
	return (2*uint64(s.Head) + uint64(s.Keys)) / uint64(s.Unit)
}

// sectors tells how many sectors the data have.
func sectors(s api.Shape) uint64 { return s.Count - firstSector(s) }

// newest gives the epoch with the greatest number: epochs rise in what was committed.
func newest(m api.Meta) api.Epoch { return m.Epochs[len(m.Epochs)-1] }

// refusedSpan tells why so many bytes from a sector of the data on cannot be read or written.
func refusedSpan(s api.Shape, at uint64, size int) api.Errno {
	count, n := uint64(size/s.Unit), sectors(s)
	switch {
	case size == 0 || size%s.Unit != 0:
		return api.ErrShort
	case count > api.MaxConvoy:
		return api.ErrLong
	case at > n || count > n-at: // a sum could wrap round
		return api.ErrPlace
	}
	return api.OK
}

// runs cuts so many sectors from one on into those of one epoch, by rising number. The segments are all of the data, one behind the other.
func runs(segments []api.Segment, at, count uint64) iter.Seq[api.Segment] {
	return func(yield func(run api.Segment) bool) {
		end := at + count
		for _, s := range segments {
			from, to := max(at, s.Start), min(end, s.Start+s.Count)
			if from < to && !yield(api.Segment{Start: from, Count: to - from, Epoch: s.Epoch}) {
				return
			}
		}
	}
}
