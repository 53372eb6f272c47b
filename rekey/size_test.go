package rekey_test

import (
	"fmt"
	"math"
	"slices"
	"testing"

	"coffer/api"
	"coffer/rekey"
)

var units = []int{512, 1024, 2048, 4096}

// P13.1: every size of a hotzone, of each unit and mode.
func TestRoom(t *testing.T) {
	for _, unit := range units {
		for mode := 1; mode <= 2; mode++ {
			for hot := uint64(1); hot <= 4096; hot++ {
				got, e := rekey.Room(unit, mode, hot)
				if want := modelNeed(unit, mode, hot); got != want || e != api.OK {
					t.Fatalf("Room(%d, %d, %d): %d, error %d, not %d", unit, mode, hot, got, e, want)
				}
			}
		}
	}
}

// P13.1: whatever may not be, alone and with what may be, or not.
func TestRoomRefused(t *testing.T) {
	for _, unit := range []int{math.MinInt, -512, -1, 0, 1, 256, 511, 512, 513, 1023, 1025, 1536, 2047, 2049, 3072, 4095, 4096, 4097, 8192, math.MaxInt} {
		for _, mode := range []int{math.MinInt, -1, 0, 1, 2, 3, math.MaxInt} {
			for _, hot := range []uint64{0, 1, 4096, 4097, 1 << 32, 1 << 62, math.MaxUint64} {
				may := slices.Contains(units, unit) && (mode == 1 || mode == 2) && (hot == 1 || hot == 4096)
				got, e := rekey.Room(unit, mode, hot)
				name := fmt.Sprintf("Room(%d, %d, %d)", unit, mode, hot)
				if may {
					expect(t, name+": error", e, api.OK)
					continue
				}
				expect(t, name+": error", e, api.ErrArg)
				expect(t, name, got, 0)
			}
		}
	}
}

// P13.4: each number of sectors that are done, of small n, sector by sector.
func TestSegmentsSmall(t *testing.T) {
	for n := uint64(1); n <= 12; n++ {
		for done := uint64(0); done <= n; done++ {
			for _, back := range []bool{false, true} {
				r := api.Rotation{On: true, From: 3, To: 7, Back: back, Done: done}
				got, e := rekey.Segments(n, r)
				expect(t, "error", e, api.OK)
				var by []uint64
				for i, g := range got {
					if g.Count == 0 || g.Start != uint64(len(by)) || i > 1 {
						t.Errorf("n %d, Done %d, Back %v: %v", n, done, back, got)
					}
					by = append(by, slices.Repeat([]uint64{g.Epoch}, int(g.Count))...)
				}
				var want []uint64
				for i := range n {
					is := uint64(3)
					if !back && i < done || back && i >= n-done {
						is = 7
					}
					want = append(want, is)
				}
				if !slices.Equal(by, want) {
					t.Errorf("n %d, Done %d, Back %v: %v, not %v", n, done, back, by, want)
				}
			}
		}
	}
}

// P13.4: at its bounds and beyond; what else a rotation says is not looked at.
func TestSegmentsBounds(t *testing.T) {
	numbers := []uint64{0, 1, 2, 5, 1<<32 - 1, 1 << 32, 1<<32 + 1, 1 << 63, math.MaxUint64 - 1, math.MaxUint64}
	for _, n := range numbers {
		for _, done := range numbers {
			for _, back := range []bool{false, true} {
				for _, on := range []bool{false, true} {
					r := api.Rotation{On: on, From: 9, To: 9, Back: back, Done: done, Mode: 77, Hot: 0, Active: true, Count: 3, Sum: "x", Area: api.Area{Offset: -1}}
					got, e := rekey.Segments(n, r)
					name := fmt.Sprintf("n %d, Done %d, Back %v, On %v", n, done, back, on)
					if n == 0 || n > 1<<32 || !on || done > n {
						expect(t, name+": error", e, api.ErrArg)
						expect(t, name+": segments", len(got), 0)
						continue
					}
					if e != api.OK || !slices.Equal(got, modelSegments(n, r)) {
						t.Errorf("%s: %v, error %d", name, got, e)
					}
				}
			}
		}
	}
}

// P13.3: the hotzone at each place, of small shapes; while a step is in the midst too.
func TestNext(t *testing.T) {
	for n := 1; n <= 9; n++ {
		for hot := uint64(1); hot <= 8; hot++ {
			for _, back := range []bool{false, true} {
				for done := uint64(0); done <= uint64(n); done++ {
					m := at(begun(t, small(n), api.Turn{Mode: api.ByJournal, Hot: hot, Back: back}), done)
					first, count := modelNext(uint64(n), m.Rotation)
					name := fmt.Sprintf("n %d, Hot %d, Back %v, Done %d", n, hot, back, done)
					gotFirst, gotCount, e := rekey.Next(m)
					expect(t, name, [2]uint64{gotFirst, gotCount}, [2]uint64{first, count})
					expect(t, name+": error", e, api.OK)
					m.Rotation.Active, m.Rotation.Count, m.Rotation.Sum = true, count, string(make([]byte, 32))
					gotFirst, gotCount, e = rekey.Next(m)
					if done == uint64(n) {
						expect(t, name+", Active: error", e, api.ErrArg)
						first, count = 0, 0
					} else {
						expect(t, name+", Active: error", e, api.OK)
					}
					expect(t, name+", Active", [2]uint64{gotFirst, gotCount}, [2]uint64{first, count})
				}
			}
		}
	}
}

// P13.3: as many sectors as may be, near both ends.
func TestNextFar(t *testing.T) {
	const n = 1<<32 - 72
	s := api.Shape{Unit: 512, Head: 16384, Keys: 4096, Count: 1 << 32}
	for _, hot := range []uint64{1, 8} {
		for _, back := range []bool{false, true} {
			for _, done := range []uint64{0, 1, 1 << 31, n - 9, n - 8, n - 7, n - 1, n} {
				m := at(begun(t, s, api.Turn{Mode: api.ByJournal, Hot: hot, Back: back}), done)
				first, count, e := rekey.Next(m)
				wantFirst, wantCount := modelNext(n, m.Rotation)
				name := fmt.Sprintf("Hot %d, Back %v, Done %d", hot, back, done)
				expect(t, name, [2]uint64{first, count}, [2]uint64{wantFirst, wantCount})
				expect(t, name+": error", e, api.OK)
			}
		}
	}
}

// P13.3: a rotation that is not on comes ahead of all else.
func TestNextOff(t *testing.T) {
	for name, m := range map[string]api.Meta{"empty": {}, "still": still(small(5)), "a wrong shape": {Shape: api.Shape{Unit: 1}}, "with the rest of a rotation": {Rotation: api.Rotation{Active: true, Count: 5}}} {
		first, count, e := rekey.Next(m)
		expect(t, name+": error", e, api.ErrTurnOff)
		expect(t, name, [2]uint64{first, count}, [2]uint64{})
	}
}
