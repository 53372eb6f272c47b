package header_test

import (
	"bytes"
	"crypto/sha256"
	"encoding/binary"
	"fmt"
	"math"
	"slices"
	"testing"

	"coffer/api"
	"coffer/header"
	"coffer/slab"
)

// modelBackup is what P8.9 says of these bytes of a device.
func modelBackup(content []byte) []byte {
	sum := sha256.Sum256(content)
	return slices.Concat([]byte("COFB"), binary.BigEndian.AppendUint64(nil, uint64(len(content))), sum[:], content)
}

// filled gives a device with unlike bytes everywhere.
func filled(t *testing.T, unit, size int) *tape {
	d := newTape(t, unit, size)
	for i := range d.disk {
		d.disk[i] = byte(i*7 + i>>9)
	}
	return d
}

// P8.9: sizes of each edge, on devices that have just so many bytes, more, and less.
func TestBackup(t *testing.T) {
	t.Parallel()
	for i, size := range []int{4096, 8192, 12288, 36864, 1 << 20, 1<<20 + 4096, 1<<24 - 4096, 1 << 24} {
		for _, unit := range units {
			if size > 1<<20 && unit != units[i%4] {
				continue
			}
			name := fmt.Sprintf("%d bytes, unit %d", size, unit)
			for _, more := range []int{0, unit, 8192} {
				d := filled(t, unit, size+more)
				disk := bytes.Clone(d.disk)
				b, e := header.Backup(d, size)
				if e != api.OK || !bytes.Equal(b, modelBackup(disk[:size])) {
					t.Errorf("%s, %d more: error %d, %d bytes", name, more, e, len(b))
				}
				holds(t, name, d, disk)
			}
			d := filled(t, unit, size-unit)
			b, e := header.Backup(d, size)
			if e != api.ErrShort || len(b) != 0 || len(d.asked) != 0 {
				t.Errorf("%s, a sector too small: error %d, %v", name, e, d.asked)
			}
		}
	}
}

// P8.9: sizes that may not be, of devices that would have so many bytes, and of others.
func TestBackupSizes(t *testing.T) {
	for size, want := range map[int]api.Errno{
		0: api.ErrArg, -1: api.ErrArg, -4096: api.ErrArg, math.MinInt: api.ErrArg, 1: api.ErrArg, 512: api.ErrArg, 4095: api.ErrArg, 4097: api.ErrArg, 6144: api.ErrArg, 1<<24 - 1: api.ErrArg, 1<<24 + 1: api.ErrArg, 1<<24 + 512: api.ErrArg, math.MaxInt: api.ErrArg,
		1<<24 + 4096: api.ErrLong, 1 << 25: api.ErrLong, 1 << 40: api.ErrLong, 1 << 62: api.ErrLong,
	} {
		for _, count := range []uint64{1, 80, 1 << 32, math.MaxUint64} {
			d := &tape{t: t, unit: 512, count: count}
			b, e := header.Backup(d, size)
			if e != want || len(b) != 0 || len(d.asked) != 0 {
				t.Errorf("size %d, count %d: error %d, not %d, %v", size, count, e, want, d.asked)
			}
		}
	}
}

// P8.9: what the device holds behind it, and in which order that was written.
func TestRestore(t *testing.T) {
	t.Parallel()
	for i, head := range heads {
		for j, more := range []int{0, 4096, 40960, 1 << 20} {
			unit := units[(i+j)%4]
			content := filled(t, unit, 2*head+more).disk
			for _, room := range []int{0, unit, 65536} {
				d := newTape(t, unit, len(content)+room)
				copy(d.disk, bytes.Repeat([]byte("what was there"), len(d.disk)/14))
				disk := slices.Concat(content, d.disk[len(content):])
				backup := modelBackup(content)
				name := fmt.Sprintf("head %d, unit %d, %d more, room %d", head, unit, more, room)
				expect(t, name, header.Restore(d, backup, head), api.OK)
				order := []event{written(unit, 0, unit), written(unit, head, unit), flushed}
				if more > 0 {
					order = append(order, written(unit, 2*head, more))
				}
				order = append(order, flushed, written(unit, head, head), flushed, written(unit, 0, head), flushed)
				holds(t, name, d, disk, order...)
				if !bytes.Equal(backup, modelBackup(content)) {
					t.Errorf("%s: the backup is changed", name)
				}
			}
		}
	}
}

// P8.9: the first two writes are zeros over one sector each, and durable ahead of all else.
func TestRestoreBlots(t *testing.T) {
	d := filled(t, 512, 40960)
	backup, _ := header.Backup(d.again(), 36864)
	d.fails, d.why = 3, api.ErrDevice
	disk := bytes.Clone(d.disk)
	clear(disk[:512])
	clear(disk[1<<14 : 1<<14+512])
	expect(t, "Restore", header.Restore(d, backup, 1<<14), api.ErrDevice)
	holds(t, "Restore", d, disk, event{'w', 0, 1}, event{'w', 32, 1}, flushed)
}

// notBackups lists bytes that are none, each a little beside a good one of 36864 bytes.
func notBackups(content []byte) map[string][]byte {
	good := modelBackup(content)
	named := func(n uint64) []byte {
		b := bytes.Clone(good)
		binary.BigEndian.PutUint64(b[4:], n)
		return b
	}
	out := map[string][]byte{
		"nothing": nil, "the mark": good[:4], "the head but a byte": good[:43], "the head": good[:44], "a byte less": good[:len(good)-1], "a sector less": good[:len(good)-4096], "a byte more": append(bytes.Clone(good), 0), "4096 bytes more": append(bytes.Clone(good), make([]byte, 4096)...),
		"a size of a byte less": named(36863), "a size of a byte more": named(36865), "a size of nothing": named(0), "a greater size": named(40960), "a size with a high bit": named(1<<63 + 36864), "another one": named(1<<32 + 36864), "the greatest": named(math.MaxUint64),
		"no bytes":                            modelBackup(nil),
		"a number of bytes that is no step's": modelBackup(content[:36864-512]),
		"one byte":                            modelBackup(content[:1]),
	}
	for i := range 44 {
		b := bytes.Clone(good)
		b[i] ^= 1
		out[fmt.Sprint("byte ", i)] = b
	}
	for _, i := range []int{44, 45, 5000, len(good) - 1} {
		b := bytes.Clone(good)
		b[i] ^= 0x80
		out[fmt.Sprint("byte ", i)] = b
	}
	return out
}

// P8.9: what is no backup, or has not both copies; the device is not asked for an operation.
func TestRestoreErrors(t *testing.T) {
	t.Parallel()
	content := filled(t, 512, 36864).disk
	for name, b := range notBackups(content) {
		for _, size := range []int{512, 36864, 1 << 20} { // ErrBackup is told ahead of ErrShort
			d := newTape(t, 512, size)
			expect(t, name, header.Restore(d, b, 1<<14), api.ErrBackup)
			for _, head := range []int{math.MinInt, -1 << 14, 0, 1, 8192, 1<<14 - 1, 1<<14 + 1, 3 << 13, 1<<22 + 1, 1 << 23, 1<<32 + 1<<14, math.MaxInt} { // and ErrHeadSize ahead of it
				expect(t, fmt.Sprint(name, ", head ", head), header.Restore(d, b, head), api.ErrHeadSize)
			}
			if len(d.asked) != 0 {
				t.Errorf("%s: %v", name, d.asked)
			}
		}
	}
	great := newTape(t, 512, 1<<24+8192)
	expect(t, "more than are backed up", header.Restore(great, modelBackup(filled(t, 512, 1<<24+4096).disk), 1<<14), api.ErrBackup)
	for i, head := range heads {
		unit := units[i%4]
		d := newTape(t, unit, 1<<24)
		expect(t, fmt.Sprint("a step too little for ", head), header.Restore(d, modelBackup(make([]byte, 2*head-4096)), head), api.ErrBackup)
		just := modelBackup(make([]byte, 2*head))
		for _, more := range heads[i+1:] {
			expect(t, fmt.Sprint(head, " and ", more), header.Restore(d, just, more), api.ErrBackup)
		}
		if len(d.asked) != 0 {
			t.Errorf("%v", d.asked)
		}
		small := newTape(t, unit, 2*head-unit)
		expect(t, fmt.Sprint("a sector too small for ", head), header.Restore(small, just, head), api.ErrShort)
		if len(small.asked) != 0 {
			t.Errorf("%v", small.asked)
		}
		expect(t, "just so many", header.Restore(newTape(t, unit, 2*head), just, head), api.OK)
	}
	greatest := modelBackup(make([]byte, 1<<24))
	expect(t, "the greatest", header.Restore(newTape(t, 4096, 1<<24), greatest, 1<<22), api.OK)
	expect(t, "the greatest, a sector too small", header.Restore(newTape(t, 4096, 1<<24-4096), greatest, 1<<22), api.ErrShort)
}

// P8.9: there and back, onto another device with sectors of another size.
func TestBackupRestore(t *testing.T) {
	t.Parallel()
	for _, from := range units {
		for _, to := range units {
			c := copyOf(1<<14, 5, "{}")
			d := laidDown(t, from, 1<<17, c)
			copy(d.disk[1<<15:], filled(t, from, 1<<16).disk)
			for _, size := range []int{1 << 15, 36864, 1 << 17} {
				b, e := header.Backup(d, size)
				expect(t, "Backup", e, api.OK)
				other := filled(t, to, 1<<18)
				expect(t, "Restore", header.Restore(other, b, 1<<14), api.OK)
				again, e := header.Backup(other, size)
				if e != api.OK || !bytes.Equal(b, again) {
					t.Errorf("%d to %d, %d bytes: error %d", from, to, size, e)
				}
				got, did, e := header.Load(other, always)
				if e != api.OK || did || got != c {
					t.Errorf("%d to %d: %v, %v, error %d", from, to, got, did, e)
				}
			}
		}
	}
}

// P8.9: the power goes at each operation of Restore. Once the first Flush is done there is no copy at 0 or at head, or the whole backup but for one of the two; and whoever restores again has all of it.
func TestRestoreInterrupted(t *testing.T) {
	t.Parallel()
	const head, size = 1 << 14, 1<<15 + 1<<14
	for _, unit := range units {
		was := copyOf(head, 90, "what was there")
		content := laidDown(t, unit, size, copyOf(head, 5, "backed up")).disk
		copy(content[2*head:], filled(t, unit, size-2*head).disk)
		backup := modelBackup(content)
		for op := int64(1); op <= 9; op++ {
			for _, n := range []int{0, 1, 3, 1000} {
				for way := range keepWays {
					s := onSlab(t, laidDown(t, unit, size, was), api.Glitch{Op: op, Kind: api.GlitchOff, N: n})
					expect(t, "Restore", header.Restore(s, backup, head), api.ErrOff)
					s.Restart(keeping(way, len(s.Pending()))...)
					name := fmt.Sprintf("unit %d, power gone at %d, %d written, keeping %d", unit, op, n, way)
					disk := restOf(t, s)
					_, one := header.Unpack(disk[:head], false)
					_, two := header.Unpack(disk[head:2*head], true)
					rest := bytes.Equal(disk[2*head:], content[2*head:])
					first, second := bytes.Equal(disk[:head], content[:head]), bytes.Equal(disk[head:2*head], content[head:2*head])
					if op > 3 && !(one != api.OK && two != api.OK || rest && (first || second)) {
						t.Errorf("%s: a copy without what belongs to it: %d, %d", name, one, two)
					}
					expect(t, name, header.Restore(s, backup, head), api.OK)
					if !bytes.Equal(restOf(t, s), content) || len(s.Pending()) != 0 {
						t.Errorf("%s: it is not all there", name)
					}
				}
			}
		}
	}
}

// onSlab gives a slab with what a tape holds, and a plan.
func onSlab(t *testing.T, d *tape, plan ...api.Glitch) *slab.Slab {
	t.Helper()
	s, e := slab.New(d.unit, d.count, plan...)
	if e != api.OK {
		t.Fatalf("slab.New: error %d", e)
	}
	for at := range d.count {
		s.Poke(at, d.disk[int(at)*d.unit:int(at+1)*d.unit])
	}
	return s
}

// restOf gives all that a slab's medium holds.
func restOf(t *testing.T, s *slab.Slab) []byte {
	t.Helper()
	var out []byte
	for at := range s.Count() {
		b, e := s.Rest(at)
		if e != api.OK {
			t.Fatalf("Rest(%d): error %d", at, e)
		}
		out = append(out, b...)
	}
	return out
}
