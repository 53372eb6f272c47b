package keyring_test

import (
	"bytes"
	"fmt"
	"slices"
	"strings"
	"testing"

	"coffer/api"
	"coffer/header"
	"coffer/keyring"
	"coffer/ledger"
	"coffer/slab"
)

// loads finds what Load does not answer as it must; the device then holds disk.
func loads(t *testing.T, name string, d *tape, m api.Meta, seq uint64, disk []byte) {
	t.Helper()
	r, e := keyring.Load(d)
	if r == nil || e != api.OK {
		t.Errorf("%s: error %d", name, e)
		return
	}
	stands(t, name, r, m, seq, true, false)
	if !bytes.Equal(d.disk, disk) {
		t.Errorf("%s: the device holds other bytes", name)
	}
	if r.Device() != api.Device(d) {
		t.Errorf("%s: another device", name)
	}
}

// notLoaded finds what Load does not refuse as it must.
func notLoaded(t *testing.T, name string, d api.Device, want api.Errno) {
	t.Helper()
	if r, e := keyring.Load(d); r != nil || e != want {
		t.Errorf("%s: error %d, not %d", name, e, want)
	}
}

// P10.2: what Make and Commit laid down, the four fields of the fixed part too; nothing is written where both copies are good.
func TestLoad(t *testing.T) {
	for _, unit := range units {
		v := newVolume(t, unit, format())
		v.add("b", 9, opts())
		expect(t, "Note", v.Note(api.Token{Number: 3, Kind: "k", Slots: []int{0, 9}, Note: "n"}), api.OK)
		m := changed(v.Meta(), func(m *api.Meta) { m.Label, m.Subsystem, m.UUID = "another", "", "z" })
		expect(t, "Commit", v.Commit(m), api.OK)
		d := v.tape.again()
		loads(t, fmt.Sprint("unit ", unit), d, m, 4, v.tape.disk)
		d.holds("Load", v.tape.disk, flushed)
	}
}

// P10.2: layer 8's errors.
func TestLoadRefused(t *testing.T) {
	notLoaded(t, "no device", nil, api.ErrNil)
	notLoaded(t, "a slab that is not there", (*slab.Slab)(nil), api.ErrArg)
	for _, unit := range []int{-1, 0, 256, 1000, 8192} {
		notLoaded(t, fmt.Sprint("unit ", unit), odd{unit, 1 << 20}, api.ErrArg)
	}
	notLoaded(t, "nothing there", newTape(t, 512, 65536), api.ErrHeader)
	notLoaded(t, "one sector", newTape(t, 512, 512), api.ErrHeader)
	d := newTape(t, 512, 65536)
	for i := range d.disk {
		d.disk[i] = byte(i * 3)
	}
	notLoaded(t, "any bytes", d, api.ErrHeader)
	for _, text := range []string{"", "{}", "null", "{", "[1,]"} {
		_, e := header.Commit(d, api.HeadCopy{Head: 16384, Salt: strings.Repeat("s", 64)}, text)
		expect(t, "header.Commit", e, api.OK)
		notLoaded(t, fmt.Sprintf("the text %q", text), d.again(), api.ErrHeader)
	}
}

// P10.2: an error of the device at each operation, where a copy is mended too.
func TestLoadFails(t *testing.T) {
	for _, hurt := range []int{-1, 5000, 20000} {
		v := newVolume(t, 512, format())
		if hurt >= 0 {
			v.tape.disk[hurt] ^= 1
		}
		whole := v.tape.again()
		notFails := whole.again()
		loads(t, "Load", notFails, v.meta, 1, overlaid(v.tape.disk, 0, copies(t, v.meta, 1)))
		for op := 1; op <= len(notFails.asked); op++ {
			d := whole.again().plan(op, 777, 1)
			notLoaded(t, fmt.Sprint("operation ", op), d, 777)
			if !slices.Equal(d.asked, notFails.asked[:op]) {
				t.Errorf("operation %d: %v", op, d.asked)
			}
			loads(t, "behind it", d.again(), v.meta, 1, notFails.disk)
		}
	}
}

// committedText has a device hold a text in both copies, under a number.
func committedText(t *testing.T, d *tape, m api.Meta, head int, seq uint64, text string) {
	t.Helper()
	c := api.HeadCopy{Head: head, Seq: seq - 1, Label: m.Label, Subsystem: m.Subsystem, UUID: m.UUID, Salt: m.HeadSalt}
	_, e := header.Commit(d, c, text)
	expect(t, "header.Commit", e, api.OK)
}

// P10.2: of two good copies the one counts whose text layer 9 takes, however low its number; the other one is written anew.
func TestLoadWell(t *testing.T) {
	v := newVolume(t, 512, format())
	text, _ := ledger.Print(v.meta)
	wrongs := map[string]string{
		"no metadata":   "{}",
		"no JSON":       text[1:],
		"a byte behind": text + "x",
		"no keyslot":    text[:strings.Index(text, `"keyslots"`)] + `"keyslots":{}` + text[strings.Index(text, `,"epochs"`):],
		"a wrong unit":  strings.Replace(text, `"unit":512`, `"unit":500`, 1),
		"an area off":   strings.Replace(text, `"offset":32768`, `"offset":32767`, 1),
	}
	for name, other := range wrongs {
		d := v.tape.again()
		committedText(t, d, v.meta, 16384, 90, other)
		both := d.again()
		notLoaded(t, name+", both", both, api.ErrHeader)
		for _, at := range []int{0, 16384} {
			d := d.again()
			copy(d.disk[at:at+16384], v.tape.disk[at:])
			loads(t, name, d, v.meta, 1, v.tape.disk)
		}
	}
	next := changed(v.meta, func(m *api.Meta) { m.Slots[0].Priority = 2 })
	d := v.tape.again()
	copy(d.disk, copies(t, next, 7)[:16384])
	loads(t, "the primary one is newer", d, next, 7, overlaid(v.tape.disk, 0, copies(t, next, 7)))
	d = v.tape.again()
	copy(d.disk[16384:], copies(t, next, 7)[16384:])
	loads(t, "the secondary one is newer", d, next, 7, overlaid(v.tape.disk, 0, copies(t, next, 7)))
	d = v.tape.again()
	copy(d.disk[16384:], copies(t, next, 1)[16384:])
	loads(t, "both of one number", d, v.meta, 1, v.tape.disk)
}

// P10.2: a text in another writing is the same metadata; the copies stay as they are. The next commit writes Print's.
func TestLoadOtherWriting(t *testing.T) {
	v := newVolume(t, 512, format())
	text, _ := ledger.Print(v.meta)
	committedText(t, v.tape, v.meta, 16384, 5, " "+strings.Replace(text, `"unit":512`, `"unit" : 5.12e2`, 1)+"\n")
	disk := bytes.Clone(v.tape.disk)
	loads(t, "other writing", v.tape, v.meta, 5, disk)
	r := v.load()
	expect(t, "Prefer", r.Prefer(0, 1), api.OK)
	if !bytes.Equal(v.tape.disk[:32768], copies(t, v.meta, 6)) {
		t.Errorf("the next commit is not of Print's text")
	}
}

// P10.2: metadata of a device of another unit or count, or that lie in copies of another size.
func TestLoadDevShape(t *testing.T) {
	v := newVolume(t, 1024, format())
	for _, unit := range []int{512, 2048, 4096} {
		d := v.tape.again()
		d.unit = unit
		notLoaded(t, fmt.Sprint("unit ", unit), d, api.ErrDevShape)
		if len(d.asked) == 0 || d.asked[0] != flushed {
			t.Errorf("unit %d: no Flush ahead of all else", unit)
		}
		d = v.tape.again()
		d.disk = append(d.disk, make([]byte, 4*len(d.disk))...)[:unit*int(v.tape.Count())]
		d.unit = unit
		notLoaded(t, fmt.Sprint("unit ", unit, ", as many sectors"), d, api.ErrDevShape)
	}
	d := v.tape.again()
	d.disk = append(d.disk, make([]byte, 1024)...)
	notLoaded(t, "a sector more", d, api.ErrDevShape)
	d.disk = d.disk[:len(d.disk)-2048]
	notLoaded(t, "a sector less", d, api.ErrDevShape)
	d = v.tape.again()
	text, _ := ledger.Print(v.meta)
	committedText(t, d, v.meta, 32768, 2, text)
	notLoaded(t, "copies of another size", d, api.ErrDevShape)
	d = v.tape.again()
	d.unit = 512
	d.disk[3] = 0
	notLoaded(t, "another unit, and one copy is torn", d, api.ErrDevShape)
	if !bytes.Equal(d.disk, v.tape.disk) {
		t.Errorf("the load has not mended") // it is layer 8's Load that has been answered
	}
}
