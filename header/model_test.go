package header_test

import (
	"bytes"
	"crypto/sha256"
	"encoding/binary"
	"math/bits"
	"strings"
	"testing"

	"coffer/api"
	"coffer/header"
)

// units are those that a device may have.
var units = []int{512, 1024, 2048, 4096}

// heads are the sizes that a copy may have, and the places of a secondary one.
var heads = []int{1 << 14, 1 << 15, 1 << 16, 1 << 17, 1 << 18, 1 << 19, 1 << 20, 1 << 21, 1 << 22}

func isHead(n int) bool {
	return n >= 1<<14 && n <= 1<<22 && bits.OnesCount(uint(n)) == 1
}

// copyOf gives a copy with something in all of its fields.
func copyOf(head int, seq uint64, text string) api.HeadCopy {
	salt := make([]byte, 64)
	for i := range salt {
		salt[i] = byte(i * 7)
	}
	return api.HeadCopy{Head: head, Seq: seq, Label: "a label", Subsystem: "what for", UUID: "8f14e45f-ceea-467f-a4e3-4e2f6b8a1c0d", Salt: string(salt), Text: text}
}

func turned(c api.HeadCopy) api.HeadCopy {
	c.Second = !c.Second
	return c
}

// summed gives the bytes with the digest of what they hold in its place.
func summed(b []byte) []byte {
	b = bytes.Clone(b)
	zeros := bytes.Clone(b)
	clear(zeros[448:512])
	sum := sha256.Sum256(zeros)
	copy(b[448:480], sum[:])
	return b
}

// modelRefused is P8.1's errors a second time.
func modelRefused(c api.HeadCopy) api.Errno {
	bad := func(s string, most int) bool { return len(s) > most || strings.Contains(s, "\x00") }
	if !isHead(c.Head) {
		return 83
	}
	if c.Seq < 1 || c.Seq > 1<<62 || bad(c.Label, 47) || bad(c.Subsystem, 47) || bad(c.UUID, 39) || len(c.Salt) != 64 {
		return 85
	}
	if bad(c.Text, c.Head-4097) {
		return 86
	}
	return 0
}

// modelPack is the chapter's table a second time, with the library's digest.
func modelPack(c api.HeadCopy) []byte {
	b := make([]byte, c.Head)
	copy(b, []byte{'L', 'U', 'K', 'S', 0xba, 0xbe, 0, 2})
	binary.BigEndian.PutUint64(b[8:], uint64(c.Head))
	binary.BigEndian.PutUint64(b[16:], c.Seq)
	copy(b[24:], c.Label)
	copy(b[72:], "sha256")
	copy(b[104:], c.Salt)
	copy(b[168:], c.UUID)
	copy(b[208:], c.Subsystem)
	if c.Second {
		copy(b, "SKUL")
		binary.BigEndian.PutUint64(b[256:], uint64(c.Head))
	}
	copy(b[4096:], c.Text)
	return summed(b)
}

// modelText is what stands in a room, and whether it is a text with zeros behind it.
func modelText(room []byte) (string, bool) {
	text := strings.TrimRight(string(room), "\x00")
	return text, len(text) < len(room) && !strings.Contains(text, "\x00")
}

// modelUnpack is P8.2 a second time.
func modelUnpack(b []byte, second bool) (api.HeadCopy, api.Errno) {
	none := api.HeadCopy{}
	if len(b) < 4096 {
		return none, 5
	}
	if e := modelOpening(b, second); e != 0 {
		return none, e
	}
	c := api.HeadCopy{Second: second, Head: int(binary.BigEndian.Uint64(b[8:])), Seq: binary.BigEndian.Uint64(b[16:]), Salt: string(b[104:168])}
	if c.Head != len(b) {
		return none, 83
	}
	if !bytes.Equal(summed(b), b) {
		return none, 84
	}
	var right [3]bool
	c.Label, right[0] = modelText(b[24:72])
	c.UUID, right[1] = modelText(b[168:208])
	c.Subsystem, right[2] = modelText(b[208:256])
	begins := uint64(0)
	if second {
		begins = uint64(c.Head)
	}
	zeros := string(make([]byte, 4096))
	if right != [3]bool{true, true, true} || c.Seq == 0 || c.Seq > 1<<62 || string(b[72:104]) != "sha256"+zeros[:26] || binary.BigEndian.Uint64(b[256:]) != begins || string(b[264:448]) != zeros[:184] || string(b[480:4096]) != zeros[:3616] {
		return none, 85
	}
	var ends bool
	if c.Text, ends = modelText(b[4096:]); !ends {
		return none, 86
	}
	return c, 0
}

// modelOpening is what the first bytes tell: magic, version, size.
func modelOpening(b []byte, second bool) api.Errno {
	magic := "LUKS\xba\xbe"
	if second {
		magic = "SKUL\xba\xbe"
	}
	size := binary.BigEndian.Uint64(b[8:])
	switch {
	case string(b[:6]) != magic:
		return 81
	case b[6] != 0 || b[7] != 2:
		return 82
	case size > 1<<22 || !isHead(int(size)):
		return 83
	}
	return 0
}

// modelScan is P8.3 a second time, over all bytes of a device.
func modelScan(disk []byte) api.HeadFound {
	var f api.HeadFound
	if len(disk) < 4096 {
		f.First.Why = 5
	} else if f.First.Why = modelOpening(disk, false); f.First.Why == 0 {
		head := int(binary.BigEndian.Uint64(disk[8:]))
		if 2*head > len(disk) {
			f.First.Why = 83
		} else {
			f.First.Copy, f.First.Why = modelUnpack(disk[:head], false)
		}
	}
	if f.First.Why == 0 {
		head := f.First.Copy.Head
		f.Second.Copy, f.Second.Why = modelUnpack(disk[head:2*head], true)
		return f
	}
	for _, place := range heads {
		if 2*place <= len(disk) {
			if c, e := modelUnpack(disk[place:2*place], true); e == 0 {
				f.Second.Copy = c
				return f
			}
		}
	}
	f.Second.Why = 80
	return f
}

// event is an operation of a device: r, w or f.
type event struct {
	kind byte
	at   uint64
	n    int
}

// tape is a device that writes down what it is asked, and answers an error at one operation, if it is told so.
type tape struct {
	t      *testing.T
	unit   int
	count  uint64
	disk   []byte // the first bytes; what lies behind them is zeros, and is not written
	asked  []event
	fails  int // the number of the operation that answers why
	why    api.Errno
	part   int // so many sectors of a write that fails are written
	failed bool
}

// newTape gives one of so many bytes, all zeros.
func newTape(t *testing.T, unit, size int) *tape {
	return &tape{t: t, unit: unit, count: uint64(size / unit), disk: make([]byte, size/unit*unit)}
}

// again gives another one with the same bytes, which was asked nothing.
func (d *tape) again() *tape {
	return &tape{t: d.t, unit: d.unit, count: d.count, disk: bytes.Clone(d.disk)}
}

func (d *tape) Unit() int {
	d.alive("Unit")
	return d.unit
}

func (d *tape) Count() uint64 {
	d.alive("Count")
	return d.count
}

// alive finds calls behind an error.
func (d *tape) alive(call string) {
	if d.failed {
		d.t.Errorf("%s is called behind the device's first error", call)
	}
}

// begin writes an operation down: its error.
func (d *tape) begin(kind byte, at uint64, n int) api.Errno {
	d.alive(string(kind))
	if kind != 'f' && (n == 0 || n%d.unit != 0 || n > 256*d.unit || at >= d.count || uint64(n/d.unit) > d.count-at) {
		d.t.Errorf("%c of %d bytes at sector %d, of %d sectors of %d bytes", kind, n, at, d.count, d.unit)
		d.failed = true
		return api.ErrSector
	}
	d.asked = append(d.asked, event{kind, at, n / d.unit})
	if len(d.asked) == d.fails {
		d.failed = true
		return d.why
	}
	return api.OK
}

func (d *tape) Read(at uint64, into []byte) api.Errno {
	e := d.begin('r', at, len(into))
	if e == api.OK {
		clear(into)
		if at < uint64(len(d.disk)/d.unit) {
			copy(into, d.disk[int(at)*d.unit:])
		}
	}
	return e
}

func (d *tape) Write(at uint64, data []byte) api.Errno {
	e := d.begin('w', at, len(data))
	if e != api.OK {
		data = data[:min(len(data), d.part*d.unit)]
	}
	if at < uint64(len(d.disk)/d.unit) {
		copy(d.disk[int(at)*d.unit:], data)
	}
	return e
}

func (d *tape) Flush() api.Errno { return d.begin('f', 0, 0) }

// changes gives the writes and flushes; writes of one behind the other as one.
func (d *tape) changes() []event {
	var out []event
	for _, e := range d.asked {
		last := len(out) - 1
		switch {
		case e.kind == 'r':
		case last >= 0 && e.kind == 'w' && out[last].kind == 'w' && out[last].at+uint64(out[last].n) == e.at:
			out[last].n += e.n
		default:
			out = append(out, e)
		}
	}
	return out
}

// calls gives all calls that take a device, so that they can be asked alike: the error, and whether every other result is the zero value.
func calls(c api.HeadCopy, size int, backup []byte) map[string]func(api.Device) (api.Errno, bool) {
	return map[string]func(api.Device) (api.Errno, bool){
		"Scan": func(d api.Device) (api.Errno, bool) {
			f, e := header.Scan(d)
			return e, f == api.HeadFound{}
		},
		"Mend": func(d api.Device) (api.Errno, bool) {
			did, e := header.Mend(d, c)
			return e, !did
		},
		"Load": func(d api.Device) (api.Errno, bool) {
			got, did, e := header.Load(d, always)
			return e, got == api.HeadCopy{} && !did
		},
		"Commit": func(d api.Device) (api.Errno, bool) {
			got, e := header.Commit(d, c, "another text")
			return e, got == api.HeadCopy{}
		},
		"Clear": func(d api.Device) (api.Errno, bool) { return header.Clear(d), true },
		"Erase": func(d api.Device) (api.Errno, bool) { return header.Erase(d, c.Head), true },
		"Backup": func(d api.Device) (api.Errno, bool) {
			b, e := header.Backup(d, size)
			return e, len(b) == 0
		},
		"Restore": func(d api.Device) (api.Errno, bool) { return header.Restore(d, backup, c.Head), true },
	}
}

func always(string) bool { return true }

// expect holds an error against the one that must be.
func expect(t *testing.T, name string, got, want api.Errno) {
	t.Helper()
	if got != want {
		t.Errorf("%s: error %d, not %d", name, got, want)
	}
}
