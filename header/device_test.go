package header_test

import (
	"bytes"
	"fmt"
	"go/parser"
	"go/token"
	"math"
	"path/filepath"
	"slices"
	"strconv"
	"strings"
	"testing"

	"coffer/api"
	"coffer/header"
	"coffer/slab"
)

// written gives the event of a write of bytes at a byte of the device.
func written(unit, at, n int) event { return event{'w', uint64(at / unit), n / unit} }

var flushed = event{'f', 0, 0}

// holds finds what a device should hold and does not, or was asked in another order.
func holds(t *testing.T, name string, d *tape, disk []byte, order ...event) {
	t.Helper()
	if !bytes.Equal(d.disk, disk) {
		t.Errorf("%s: the device holds other bytes", name)
	}
	if got := d.changes(); !slices.Equal(got, order) {
		t.Errorf("%s: %v, not %v", name, got, order)
	}
}

// All calls: ErrNil of no device, ErrArg of one whose unit may not be; ahead of all else that is wrong, and without an operation.
func TestNoDevice(t *testing.T) {
	wrong := api.HeadCopy{Head: 5, Seq: math.MaxUint64, Text: "\x00"}
	for name, call := range calls(wrong, -1, nil) {
		if e, zero := call(nil); e != api.ErrNil || !zero {
			t.Errorf("%s: no device: error %d", name, e)
		}
		var none *slab.Slab
		if e, zero := call(none); e != api.ErrArg || !zero {
			t.Errorf("%s: a slab that is not there has the unit 0: error %d", name, e)
		}
		for _, unit := range []int{math.MinInt, -512, -1, 0, 1, 256, 511, 513, 1023, 1536, 2049, 3072, 4095, 4097, 8192, 1 << 20, math.MaxInt} {
			d := &tape{t: t, unit: unit, count: 100}
			if e, zero := call(d); e != api.ErrArg || !zero || len(d.asked) != 0 {
				t.Errorf("%s: unit %d: error %d, %v", name, unit, e, d.asked)
			}
		}
	}
	_, _, e := header.Load(nil, nil)
	expect(t, "Load of no device and no well", e, api.ErrNil)
	_, _, e = header.Load(&tape{t: t, unit: 100, count: 100}, nil)
	expect(t, "Load of a wrong unit and no well", e, api.ErrArg)
	d := newTape(t, 512, 40960)
	c, did, e := header.Load(d, nil)
	if e != api.ErrNil || did || c != (api.HeadCopy{}) || len(d.asked) != 0 {
		t.Errorf("Load with no well: error %d, %v", e, d.asked)
	}
}

// stopper is a device that gives up.
type stopper struct{ *tape }

func (s stopper) Flush() api.Errno                    { panic("no power") }
func (s stopper) Read(at uint64, b []byte) api.Errno  { panic("no power") }
func (s stopper) Write(at uint64, b []byte) api.Errno { panic("no power") }

// Rule 1: no call panics, not even where the device does what no device may.
func TestDeviceGivesUp(t *testing.T) {
	c := copyOf(1<<14, 5, "{}")
	backup, _ := header.Backup(laidDown(t, 512, 40960, c), 32768)
	for name, call := range calls(c, 32768, backup) {
		if e, zero := call(stopper{newTape(t, 512, 40960)}); e != api.ErrPanic || !zero {
			t.Errorf("%s: error %d", name, e)
		}
	}
}

// P8.5: the twin is written where it is not there already: whatever is changed of it, and in which copy.
func TestMend(t *testing.T) {
	t.Parallel()
	for _, unit := range units {
		for _, head := range heads[:4] {
			for _, second := range []bool{false, true} {
				c := copyOf(head, 5, "{}")
				whole := laidDown(t, unit, 2*head+8192, c)
				copy(whole.disk[2*head:], "what lies behind it stays")
				at := head
				if second {
					c, at = turned(c), 0
				}
				name := fmt.Sprintf("unit %d, head %d, second %v", unit, head, second)
				d := whole.again()
				if did, e := header.Mend(d, c); did || e != api.OK {
					t.Errorf("%s: nothing to mend: %v, error %d", name, did, e)
				}
				holds(t, name, d, whole.disk)
				for _, place := range []int{0, 7, 20, 448, 490, 4095, 4096, 5000, head - 1} {
					d := whole.again()
					d.disk[at+place] ^= 0x10
					if did, e := header.Mend(d, c); !did || e != api.OK {
						t.Errorf("%s: byte %d: %v, error %d", name, place, did, e)
					}
					holds(t, name, d, whole.disk, written(unit, at, head), flushed)
				}
				d = whole.again()
				clear(d.disk[:2*head]) // the copy that is handed in is not looked for
				if did, e := header.Mend(d, c); !did || e != api.OK {
					t.Errorf("%s: nothing there: %v, error %d", name, did, e)
				}
				disk := bytes.Clone(whole.disk)
				clear(disk[head-at : 2*head-at])
				holds(t, name, d, disk, written(unit, at, head), flushed)
			}
		}
	}
}

// P8.5: a twin of another number or another text is no twin, though it is good.
func TestMendOther(t *testing.T) {
	c := copyOf(1<<14, 5, "{}")
	for name, do := range map[string]func(c *api.HeadCopy){
		"Seq":       func(c *api.HeadCopy) { c.Seq++ },
		"Text":      func(c *api.HeadCopy) { c.Text = "[]" },
		"Label":     func(c *api.HeadCopy) { c.Label = "" },
		"Subsystem": func(c *api.HeadCopy) { c.Subsystem = "z" },
		"UUID":      func(c *api.HeadCopy) { c.UUID = "z" },
		"Salt":      func(c *api.HeadCopy) { c.Salt = strings.Repeat("z", 64) },
	} {
		other := c
		do(&other)
		d := laidDown(t, 1024, 32768, c)
		if did, e := header.Mend(d, other); !did || e != api.OK {
			t.Errorf("%s: %v, error %d", name, did, e)
		}
		holds(t, name, d, append(modelPack(c), modelPack(turned(other))...), written(1024, 1<<14, 1<<14), flushed)
	}
}

// P8.5, P8.7: what Pack refuses is refused here, in its order, then a device that is too small; nothing is asked of the device.
func TestRefused(t *testing.T) {
	for i, x := range changes() {
		c := copyOf(1<<14, 5, "{}")
		x.do(&c)
		unit := units[i%4]
		for _, size := range []int{unit, 4096, 1 << 14, 1<<15 - unit} {
			want := x.e
			if want == api.OK {
				want = api.ErrHeadSize
			}
			d := newTape(t, unit, size)
			did, e := header.Mend(d, c)
			if e != want || did || len(d.asked) != 0 {
				t.Errorf("Mend, %d bytes, %s: error %d, not %d, %v", size, x.name, e, want, d.asked)
			}
			refuseCommit(t, d, x, c, want)
		}
		d := newTape(t, unit, 1<<15)
		if x.e != api.OK {
			_, e := header.Mend(d, c)
			expect(t, "Mend, "+x.name, e, x.e)
			refuseCommit(t, d, x, c, x.e)
			if len(d.asked) != 0 {
				t.Errorf("%s: %v", x.name, d.asked)
			}
		}
	}
}

// refuseCommit finds the same of Commit, whose number and text are not the copy's own.
func refuseCommit(t *testing.T, d *tape, x change, c api.HeadCopy, want api.Errno) {
	t.Helper()
	text := c.Text
	if strings.HasPrefix(x.name, "Seq") {
		want = api.ErrHeadSize
		if d.count*uint64(d.unit) >= 1<<15 {
			want = api.OK
		}
		if c.Seq >= 1<<62 {
			want = api.ErrHeadField
		}
		if want == api.OK {
			return
		}
	}
	c.Text = "\x00" // it does not matter
	got, e := header.Commit(d, c, text)
	if e != want || got != (api.HeadCopy{}) || len(d.asked) != 0 {
		t.Errorf("Commit, %d sectors, %s: error %d, not %d, %v", d.count, x.name, e, want, d.asked)
	}
}

// P8.7: the last number comes ahead of all that Pack finds.
func TestCommitOrder(t *testing.T) {
	d := newTape(t, 512, 32768)
	wrong := api.HeadCopy{Head: 7, Seq: 1 << 62, Label: "\x00"}
	_, e := header.Commit(d, wrong, "\x00")
	expect(t, "the last number, and all else wrong", e, api.ErrHeadField)
	wrong.Seq--
	_, e = header.Commit(d, wrong, "\x00")
	expect(t, "the number ahead of it, and all else wrong", e, api.ErrHeadSize)
	wrong.Head = 1 << 14
	_, e = header.Commit(d, wrong, "\x00")
	expect(t, "fields and text", e, api.ErrHeadField)
	right := copyOf(1<<15, 5, "{}")
	_, e = header.Commit(d, right, "\x00")
	expect(t, "the text and no room", e, api.ErrHeadText)
	_, e = header.Commit(d, right, "")
	expect(t, "no room", e, api.ErrHeadSize)
	if len(d.asked) != 0 {
		t.Errorf("%v", d.asked)
	}
}

// P8.7: what the device holds behind it, in which order it was written, and the answer; of any number and either copy.
func TestCommit(t *testing.T) {
	t.Parallel()
	for i, head := range heads {
		for j, seq := range []uint64{0, 1, 1 << 40, 1<<62 - 2, 1<<62 - 1} {
			if head >= 1<<19 && (i+j)%5 != 0 {
				continue
			}
			unit := units[(i+j)%4]
			for _, second := range []bool{false, true} {
				c := copyOf(head, seq, "what was")
				c.Second = second
				next := c
				next.Second, next.Seq, next.Text = false, seq+1, "what is to be"
				d := newTape(t, unit, 2*head+4096)
				copy(d.disk, bytes.Repeat([]byte("full"), len(d.disk)/4))
				disk := slices.Concat(modelPack(next), modelPack(turned(next)), d.disk[2*head:])
				name := fmt.Sprintf("head %d, unit %d, seq %d", head, unit, seq)
				got, e := header.Commit(d, c, "what is to be")
				if e != api.OK || got != next {
					t.Errorf("%s: error %d, %v", name, e, got)
				}
				holds(t, name, d, disk, flushed, written(unit, head, head), flushed, written(unit, 0, head), flushed)
			}
		}
	}
}

// P8.7: the longest text, and on a device that has no byte more than both copies.
func TestCommitFull(t *testing.T) {
	for _, unit := range units {
		d := newTape(t, unit, 32768)
		text := strings.Repeat("t", 12287)
		got, e := header.Commit(d, copyOf(1<<14, 0, ""), text)
		if want := copyOf(1<<14, 1, text); e != api.OK || got != want || !bytes.Equal(d.disk, append(modelPack(want), modelPack(turned(want))...)) {
			t.Errorf("unit %d: error %d", unit, e)
		}
	}
}

// sideOf is a copy of some number and text, or bytes that are none.
type sideOf struct {
	seq  uint64 // 0: no copy
	text string
}

// P8.6: every pair of sides, each with texts that are well or not: which one is taken, what is mended, and what well is asked.
func TestLoad(t *testing.T) {
	t.Parallel()
	sides := []sideOf{{0, ""}, {5, "well a"}, {5, "well b"}, {6, "well a"}, {6, "ill"}, {5, "ill"}, {1 << 62, "well c"}}
	for i, one := range sides {
		for j, two := range sides {
			for _, head := range heads[:3] {
				unit := units[(i+j)%4]
				d := newTape(t, unit, 2*head+4096)
				copy(d.disk[2*head:], "behind")
				first, second := copyOf(head, one.seq, one.text), turned(copyOf(head, two.seq, two.text))
				var asks []string
				if one.seq > 0 {
					copy(d.disk, modelPack(first))
					asks = append(asks, one.text)
				}
				if two.seq > 0 {
					copy(d.disk[head:], modelPack(second))
					asks = append(asks, two.text)
				}
				ones := strings.HasPrefix(one.text, "well")
				twos := strings.HasPrefix(two.text, "well")
				want, why := api.HeadCopy{}, api.ErrHeader
				if ones {
					want, why = first, api.OK
				}
				if twos && (!ones || two.seq > one.seq) {
					want, why = second, api.OK
				}
				checkLoad(t, fmt.Sprintf("%v, %v, head %d", one, two, head), d, want, why, asks)
			}
		}
	}
}

// checkLoad loads with a well that is true of texts that say so.
func checkLoad(t *testing.T, name string, d *tape, want api.HeadCopy, why api.Errno, asks []string) {
	t.Helper()
	before := bytes.Clone(d.disk)
	var asked []string
	got, did, e := header.Load(d, func(text string) bool {
		asked = append(asked, text)
		return strings.HasPrefix(text, "well")
	})
	if got != want || e != why || !slices.Equal(asked, asks) {
		t.Errorf("%s: %v, error %d; asked %q", name, got, e, asked)
	}
	if len(d.asked) == 0 || d.asked[0] != flushed {
		t.Errorf("%s: it does not flush first", name)
	}
	if why != api.OK {
		holds(t, name, d, before, flushed)
		if did {
			t.Errorf("%s: mended beside an error", name)
		}
		return
	}
	after := bytes.Clone(before)
	at := 0
	if !want.Second {
		at = want.Head
	}
	copy(after[at:], modelPack(turned(want)))
	if did != !bytes.Equal(before, after) {
		t.Errorf("%s: mended %v", name, did)
	}
	if did {
		holds(t, name, d, after, flushed, written(d.unit, at, want.Head), flushed)
	} else {
		holds(t, name, d, before, flushed)
	}
}

// P8.6: a second copy that was found at one of its places is what the first one is written from, of each size.
func TestLoadPlaces(t *testing.T) {
	t.Parallel()
	for i, head := range heads {
		d := newTape(t, units[i%4], 2*head)
		c := turned(copyOf(head, 9, "well"))
		copy(d.disk[head:], modelPack(c))
		checkLoad(t, fmt.Sprint("place ", head), d, c, api.OK, []string{"well"})
		checkLoad(t, fmt.Sprint("place ", head, " again"), d.again(), turned(c), api.OK, []string{"well", "well"})
	}
}

// P8.6: with a first copy that is good but not well, no other place than its own twin's is looked at.
func TestLoadIll(t *testing.T) {
	d := newTape(t, 512, 1<<17)
	copy(d.disk, modelPack(copyOf(1<<14, 9, "ill")))
	copy(d.disk[1<<15:], modelPack(turned(copyOf(1<<15, 3, "well"))))
	checkLoad(t, "another place", d, api.HeadCopy{}, api.ErrHeader, []string{"ill"})
}

// P8.8: zeros over the sector at byte 0 and at every place on the device, one write each, in rising order; Flush.
func TestClear(t *testing.T) {
	for i, size := range []int{4096, 8192, 16384, 20480, 32768, 36864, 40960, 65536, 69632, 1 << 20, 1<<22 + 4096, 1 << 22, 1<<22 + 8192, 1<<23 + 4096} {
		for _, unit := range units {
			if size > 1<<20 && unit != units[i%4] {
				continue
			}
			d := newTape(t, unit, size)
			copy(d.disk, bytes.Repeat([]byte{7}, len(d.disk)))
			disk := bytes.Clone(d.disk)
			order := []event{{'w', 0, 1}}
			clear(disk[:unit])
			for _, place := range heads {
				if place < size {
					clear(disk[place : place+unit])
					order = append(order, written(unit, place, unit))
				}
			}
			name := fmt.Sprintf("%d bytes, unit %d", size, unit)
			expect(t, name, header.Clear(d), api.OK)
			holds(t, name, d, disk, append(order, flushed)...)
		}
	}
	for _, unit := range units { // a place whose sector is the device's last one, or just beyond it
		for _, size := range []int{unit, 16384 - unit, 16384, 16384 + unit, 32768 - unit, 32768, 32768 + unit} {
			d := newTape(t, unit, size)
			expect(t, "Clear", header.Clear(d), api.OK)
			want := 1 + (size-1)/16384
			if got := d.changes(); len(got) != want+1 || len(d.asked) != want+1 {
				t.Errorf("unit %d, %d bytes: %v", unit, size, got)
			}
		}
	}
}

// P8.8: behind Clear Scan finds no copy, whatever lay on the device.
func TestClearScan(t *testing.T) {
	for mask := range 1 << 5 {
		d := newTape(t, units[mask%4], 1<<18)
		for i, head := range heads[:4] {
			if mask>>i&1 == 1 {
				copy(d.disk[head:], modelPack(turned(copyOf(head, 3, "x"))))
			}
		}
		if mask>>4&1 == 1 {
			copy(d.disk, modelPack(copyOf(1<<14, 3, "x")))
		}
		expect(t, "Clear", header.Clear(d), api.OK)
		f, e := header.Scan(d)
		expect(t, "Scan", e, api.OK)
		whys(t, fmt.Sprintf("%05b", mask), f, api.ErrMagic, api.ErrHeader)
	}
}

// P8.8: zeros over both copies, and nothing behind them.
func TestErase(t *testing.T) {
	t.Parallel()
	for i, head := range heads {
		unit := units[i%4]
		for _, more := range []int{0, unit, 8192} {
			d := newTape(t, unit, 2*head+more)
			copy(d.disk, bytes.Repeat([]byte{7}, len(d.disk)))
			disk := bytes.Clone(d.disk)
			clear(disk[:2*head])
			name := fmt.Sprintf("head %d, %d more", head, more)
			expect(t, name, header.Erase(d, head), api.OK)
			holds(t, name, d, disk, written(unit, 0, 2*head), flushed)
		}
		d := newTape(t, unit, 2*head-unit)
		expect(t, fmt.Sprintf("head %d, a sector too small", head), header.Erase(d, head), api.ErrHeadSize)
		if len(d.asked) != 0 {
			t.Errorf("%v", d.asked)
		}
	}
	for _, x := range changes() {
		c := copyOf(1<<14, 1, "")
		if x.do(&c); c.Head != 1<<14 {
			d := newTape(t, 512, 1<<24)
			expect(t, x.name, header.Erase(d, c.Head), api.ErrHeadSize)
			if len(d.asked) != 0 {
				t.Errorf("%s: %v", x.name, d.asked)
			}
		}
	}
}

// All calls: the device's first error, at each of its operations, is what they answer, with nothing beside it; and no call of it follows. What was written ahead of it stays, and no more.
func TestFirstError(t *testing.T) {
	t.Parallel()
	for i, unit := range units {
		for _, head := range []int{1 << 14, 1 << 18} {
			for _, torn := range []bool{false, true} {
				c := copyOf(head, 5, "{}")
				whole := laidDown(t, unit, 2*head+1<<14, c)
				backup, _ := header.Backup(whole.again(), 2*head+1<<14)
				if torn {
					clear(whole.disk[:4096])
				}
				for name, call := range calls(turned(c), 2*head+1<<14, backup) {
					name = fmt.Sprintf("%s, unit %d, head %d, torn %v", name, unit, head, torn)
					firstErrors(t, name, whole, call, api.Errno(700+i), i)
				}
			}
		}
	}
}

// firstErrors runs a call once without an error, then with one at each operation.
func firstErrors(t *testing.T, name string, whole *tape, call func(api.Device) (api.Errno, bool), why api.Errno, part int) {
	t.Helper()
	sound := whole.again()
	e, _ := call(sound)
	expect(t, name, e, api.OK)
	if len(sound.asked) == 0 {
		t.Errorf("%s: %v", name, sound.asked)
	}
	replay := whole.again()
	for k, op := range sound.asked {
		d := whole.again()
		d.fails, d.why, d.part = k+1, why, part
		e, zero := call(d)
		if e != why || !zero {
			t.Errorf("%s: an error at operation %d: %d, nothing beside it %v", name, k+1, e, zero)
		}
		if !slices.Equal(d.asked, sound.asked[:k+1]) {
			t.Errorf("%s: other operations than without an error", name)
		}
		want := bytes.Clone(replay.disk)
		if op.kind == 'w' {
			at := int(op.at) * d.unit
			copy(want[at:at+min(op.n, part)*d.unit], sound.disk[at:])
			copy(replay.disk[at:at+op.n*d.unit], sound.disk[at:])
			if strings.HasPrefix(name, "Restore") && k < 2 { // its first two writes are written over later
				clear(want[at : at+min(op.n, part)*d.unit])
				clear(replay.disk[at : at+op.n*d.unit])
			}
		}
		if !bytes.Equal(d.disk, want) {
			t.Errorf("%s: an error at operation %d: the device holds other bytes", name, k+1)
		}
	}
}

// The package leans on package api and package digest, and on what the language allows.
func TestImports(t *testing.T) {
	files, err := filepath.Glob("*.go")
	if err != nil || len(files) == 0 {
		t.Fatal(err)
	}
	for _, f := range files {
		if strings.HasSuffix(f, "_test.go") {
			continue
		}
		parsed, err := parser.ParseFile(token.NewFileSet(), f, nil, parser.ImportsOnly)
		if err != nil {
			t.Fatal(err)
		}
		for _, i := range parsed.Imports {
			path, _ := strconv.Unquote(i.Path.Value)
			if !slices.Contains([]string{"bytes", "slices", "strings", "coffer/api", "coffer/digest"}, path) {
				t.Errorf("%s imports %s", f, path)
			}
		}
	}
}
