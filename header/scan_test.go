package header_test

import (
	"bytes"
	"fmt"
	"math"
	"math/rand"
	"testing"

	"coffer/api"
	"coffer/header"
)

// checkScan holds Scan against the model, and finds whether it leaves the device as it was.
func checkScan(t *testing.T, name string, d *tape) api.HeadFound {
	t.Helper()
	d = d.again()
	f, e := header.Scan(d)
	if want := modelScan(d.disk); e != api.OK || f != want {
		t.Errorf("%s: error %d; first %d, not %d; second %d, not %d", name, e, f.First.Why, want.First.Why, f.Second.Why, want.Second.Why)
	}
	if len(d.changes()) != 0 {
		t.Errorf("%s: Scan changes the device", name)
	}
	return f
}

// whys tells both sides.
func whys(t *testing.T, name string, f api.HeadFound, first, second api.Errno) {
	t.Helper()
	if f.First.Why != first || f.Second.Why != second {
		t.Errorf("%s: first %d, second %d, not %d, %d", name, f.First.Why, f.Second.Why, first, second)
	}
}

// P8.3: devices of zeros, of every number of sectors up to where the first place ends, and some beyond.
func TestScanEmpty(t *testing.T) {
	for _, unit := range units {
		for size := unit; size <= 1<<15+2*unit; size += unit {
			d := newTape(t, unit, size)
			first := api.ErrMagic
			if size < 4096 {
				first = api.ErrShort
			}
			name := fmt.Sprintf("%d sectors of %d", size/unit, unit)
			whys(t, name, checkScan(t, name, d), first, api.ErrHeader)
		}
		d := newTape(t, unit, 1<<23)
		whys(t, "all places", checkScan(t, "all places", d), api.ErrMagic, api.ErrHeader)
	}
}

// laidDown gives a device of so many bytes with both copies on it.
func laidDown(t *testing.T, unit, size int, c api.HeadCopy) *tape {
	d := newTape(t, unit, size)
	c.Second = false
	copy(d.disk, modelPack(c))
	if 2*c.Head <= len(d.disk) {
		copy(d.disk[c.Head:], modelPack(turned(c)))
	}
	return d
}

// P8.3: both copies, of each size, on devices of each unit that end just behind them, and one sector earlier.
func TestScanBoth(t *testing.T) {
	t.Parallel()
	for i, head := range heads {
		c := copyOf(head, 7, "what it says")
		for _, unit := range units {
			if head >= 1<<20 && unit != units[i%4] {
				continue // the great ones cost a digest each
			}
			name := fmt.Sprintf("head %d, unit %d", head, unit)
			f := checkScan(t, name, laidDown(t, unit, 2*head, c))
			if f.First.Copy != c || f.Second.Copy != turned(c) {
				t.Errorf("%s: %v", name, f)
			}
			whys(t, name, f, api.OK, api.OK)
			d := newTape(t, unit, 2*head-unit)
			copy(d.disk, modelPack(c))
			copy(d.disk[head:], modelPack(turned(c)))
			f = checkScan(t, name+", a sector too small", d)
			whys(t, name, f, api.ErrHeadSize, api.ErrHeader)
		}
	}
}

// P8.3: a first copy with each fault: the second one is found at its place all the same. A second copy with each fault: the first one is good.
func TestScanFaults(t *testing.T) {
	c := copyOf(1<<14, 5, "{}")
	for i, f := range faults() {
		unit := units[i%4]
		d := laidDown(t, unit, 40960, c)
		b := f.spoil(d.disk[:1<<14])
		if f.sum {
			b = summed(b)
		}
		copy(d.disk, b)
		found := checkScan(t, f.name(), d)
		whys(t, f.name(), found, f.e, api.OK)
		if found.First.Copy != (api.HeadCopy{}) || found.Second.Copy != turned(c) {
			t.Errorf("%s: %v", f.name(), found)
		}
		d = laidDown(t, unit, 40960, c)
		b = f.spoil(d.disk[1<<14 : 1<<15])
		if f.sum {
			b = summed(b)
		}
		copy(d.disk[1<<14:], b)
		found = checkScan(t, f.name(), d)
		whys(t, f.name(), found, api.OK, f.e)
		copy(d.disk, "none") // then no place tells a copy
		whys(t, f.name(), checkScan(t, f.name(), d), api.ErrMagic, api.ErrHeader)
	}
}

// P8.3: what the first one's size says is believed only if the device has room for two such copies, and if all of it is right.
func TestScanSizes(t *testing.T) {
	c := copyOf(1<<15, 5, "{}")
	for _, unit := range units {
		d := newTape(t, unit, 1<<16-unit)
		copy(d.disk, modelPack(c))
		whys(t, "half a device", checkScan(t, "half a device", d), api.ErrHeadSize, api.ErrHeader)
		small := copyOf(1<<14, 3, "small")
		copy(d.disk[1<<14:], modelPack(turned(small)))
		f := checkScan(t, "a smaller one behind it", d)
		whys(t, "a smaller one behind it", f, api.ErrHeadSize, api.OK)
		if f.Second.Copy != turned(small) {
			t.Errorf("unit %d: %v", unit, f.Second)
		}
	}
	d := newTape(t, 512, 4096)
	copy(d.disk, modelPack(c)[:4096])
	whys(t, "a fixed part alone", checkScan(t, "a fixed part alone", d), api.ErrHeadSize, api.ErrHeader)
	d = newTape(t, 512, 3584)
	copy(d.disk, modelPack(c))
	whys(t, "less than that", checkScan(t, "less than that", d), api.ErrShort, api.ErrHeader)
	d = newTape(t, 512, 4096)
	copy(d.disk, "LUKS\xba\xbe\x00\x03")
	whys(t, "another version", checkScan(t, "another version", d), api.ErrVersion, api.ErrHeader)
}

// P8.3: a second copy at each place, with no first one; just on the device, and a sector beyond it.
func TestScanPlaces(t *testing.T) {
	t.Parallel()
	for i, head := range heads {
		c := turned(copyOf(head, 11, "at its place"))
		for _, unit := range units {
			if head >= 1<<20 && unit != units[(i+1)%4] {
				continue
			}
			name := fmt.Sprintf("place %d, unit %d", head, unit)
			d := newTape(t, unit, 2*head)
			copy(d.disk[head:], modelPack(c))
			f := checkScan(t, name, d)
			whys(t, name, f, api.ErrMagic, api.OK)
			if f.Second.Copy != c {
				t.Errorf("%s: %v", name, f.Second.Copy)
			}
			d = newTape(t, unit, 2*head-unit)
			copy(d.disk[head:], modelPack(c))
			whys(t, name, checkScan(t, name, d), api.ErrMagic, api.ErrHeader)
		}
	}
}

// P8.3: copies at places that are not theirs are none: a second one of another size, a first one.
func TestScanMisplaced(t *testing.T) {
	for _, place := range heads[:4] {
		for _, head := range heads[:4] {
			for _, second := range []bool{false, true} {
				c := copyOf(head, 11, "somewhere")
				c.Second = second
				d := newTape(t, 512, 1<<19)
				copy(d.disk[place:], modelPack(c))
				f := checkScan(t, "misplaced", d)
				want := api.ErrHeader
				if second && place == head {
					want = api.OK
				}
				whys(t, fmt.Sprintf("head %d at %d, second %v", head, place, second), f, api.ErrMagic, want)
			}
		}
	}
	for _, at := range []int{3 << 13, 512, 3 << 14, 5 << 13, 40960} { // no places
		d := newTape(t, 512, 1<<18)
		copy(d.disk[at:], modelPack(turned(copyOf(1<<14, 11, "nowhere"))))
		whys(t, fmt.Sprint("at ", at), checkScan(t, "nowhere", d), api.ErrMagic, api.ErrHeader)
	}
}

// P8.3: several second copies at once: the one at the lowest place, whatever their numbers are; a faulty one is passed over. With a good first one, what lies at its own place alone.
func TestScanSeveral(t *testing.T) {
	t.Parallel()
	for mask := range 1 << 4 {
		for bad := range 1 << 4 {
			d := newTape(t, units[mask%4], 1<<18)
			low := 0
			for i, head := range heads[:4] {
				if mask>>i&1 == 0 {
					continue
				}
				b := modelPack(turned(copyOf(head, uint64(10+i), fmt.Sprint("copy ", i))))
				if bad>>i&1 == 1 {
					b[5000] ^= 1
				} else if low == 0 {
					low = head
				}
				copy(d.disk[head:2*head], b)
			}
			name := fmt.Sprintf("places %04b, bad %04b", mask, bad)
			f := checkScan(t, name, d)
			if f.Second.Copy.Head != low || (low == 0) != (f.Second.Why == api.ErrHeader) {
				t.Errorf("%s: %v", name, f.Second)
			}
			copy(d.disk, modelPack(copyOf(1<<14, 1, "the first")))
			want := api.ErrMagic
			if mask&1 == 1 {
				want = api.OK
				if bad&1 == 1 {
					want = api.ErrHeadSum
				}
			}
			whys(t, name+", and a first", checkScan(t, name+", and a first", d), api.OK, want)
		}
	}
}

// P8.3: any bytes with pieces of copies in them.
func TestScanAny(t *testing.T) {
	t.Parallel()
	for seed := range int64(300) {
		r := rand.New(rand.NewSource(seed))
		d := newTape(t, units[r.Intn(4)], 4096*(1+r.Intn(40)))
		for range r.Intn(6) {
			head := heads[r.Intn(3)]
			c := copyOf(head, uint64(1+r.Intn(4)), anyText(r, 100))
			c.Second = r.Intn(3) > 0
			if modelRefused(c) != api.OK {
				continue
			}
			b := modelPack(c)
			at := 0
			if c.Second {
				at = head
			}
			if r.Intn(4) == 0 {
				b[r.Intn(600)] ^= 1 << r.Intn(8)
			}
			if r.Intn(8) == 0 {
				b = b[:r.Intn(len(b))]
			}
			if at < len(d.disk) {
				copy(d.disk[at:], b)
			}
		}
		checkScan(t, fmt.Sprint("seed ", seed), d)
	}
}

// P8.3: a device with more bytes than a number of 64 bits tells: sums and products are reckoned without bound.
func TestScanEndless(t *testing.T) {
	for _, unit := range units {
		for _, count := range []uint64{1 << 32, 1 << 52, 1 << 55, 1 << 63, math.MaxUint64} {
			c := copyOf(1<<14, 5, "{}")
			d := laidDown(t, unit, 1<<23, c)
			d.count = count
			f, e := header.Scan(d)
			if e != api.OK || f.First.Copy != c || f.Second.Copy != turned(c) {
				t.Errorf("unit %d, count %d: error %d, %v", unit, count, e, f)
			}
			clear(d.disk[:512])
			f, e = header.Scan(d)
			if e != api.OK || f.First.Why != api.ErrMagic || f.Second.Copy != turned(c) {
				t.Errorf("unit %d, count %d: error %d, %v", unit, count, e, f)
			}
		}
	}
}

// P8.4: all sides that count or not, with greater, smaller and equal numbers.
func TestChoose(t *testing.T) {
	for _, why1 := range []api.Errno{api.OK, api.ErrShort, api.ErrMagic, api.ErrHeadText, -1} {
		for _, why2 := range []api.Errno{api.OK, api.ErrHeader, api.ErrHeadSum, -1} {
			for _, seq1 := range []uint64{0, 1, 2, 1 << 62, math.MaxUint64} {
				for _, seq2 := range []uint64{0, 1, 2, 1 << 62, math.MaxUint64} {
					for wells := range 4 {
						first, second := wells&1 == 1, wells&2 == 2
						f := api.HeadFound{First: api.HeadSide{Why: why1, Copy: api.HeadCopy{Seq: seq1}}, Second: api.HeadSide{Why: why2, Copy: api.HeadCopy{Seq: seq2}}}
						want, why := 0, api.ErrHeader
						one, two := first && why1 == api.OK, second && why2 == api.OK
						if one && (!two || seq1 >= seq2) {
							want, why = 1, api.OK
						}
						if two && (!one || seq2 > seq1) {
							want, why = 2, api.OK
						}
						if got, e := header.Choose(f, first, second); got != want || e != why {
							t.Errorf("%d seq %d, %d seq %d, %v, %v: %d, error %d", why1, seq1, why2, seq2, first, second, got, e)
						}
					}
				}
			}
		}
	}
}

// P8.3: the first HeadFixed bytes tell of a first copy whether it is worth reading whole.
func TestScanReads(t *testing.T) {
	d := newTape(t, 4096, 1<<23)
	if _, e := header.Scan(d); e != api.OK || len(d.asked) == 0 || d.asked[0] != (event{'r', 0, 1}) {
		t.Errorf("error %d, %v", e, d.asked)
	}
	d = laidDown(t, 512, 1<<23, copyOf(1<<22, 5, "{}"))
	before := bytes.Clone(d.disk)
	f, e := header.Scan(d)
	if e != api.OK || f.First.Why != api.OK || f.Second.Why != api.OK || !bytes.Equal(before, d.disk) {
		t.Errorf("error %d", e)
	}
}
