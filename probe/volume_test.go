package probe_test

import (
	"bytes"
	"fmt"
	"slices"
	"strings"
	"testing"

	"coffer/api"
	"coffer/probe"
	"coffer/slab"
	"coffer/spring"
	"coffer/volume"
)

// A device with a volume on it that the layers above have made.

func fresh(t *testing.T) *spring.Spring {
	t.Helper()
	s, e := spring.New(256, 1<<20, bytes.Repeat([]byte{3}, 32), nil, nil)
	must(t, "spring.New", e)
	return s
}

// formatted gives a slab with a volume whose keyslots are 0 and 3.
func formatted(t *testing.T, unit int, s *spring.Spring) (*slab.Slab, *volume.Volume) {
	t.Helper()
	d, e := slab.New(unit, uint64((32768+keys)/unit+20))
	must(t, "slab.New", e)
	o := api.SlotOpts{Priority: 1, Hash: 256, Turns: 1, Cipher: "aes128-ecb", Stripes: 128}
	f := api.Format{Label: "v", UUID: "u", Head: 16384, Keys: keys, Cipher: "aes128-xts-plain64", DigestTurns: 1, Slot: o}
	must(t, "Format", volume.Format(d, s, f, []byte("a")))
	v, e := volume.Open(d, []byte("a"), api.AnySlot, 2)
	must(t, "Open", e)
	o.Priority = 2
	_, e = v.AddSlot(s, []byte("b"), 3, o)
	must(t, "AddSlot", e)
	return d, v
}

// dump gives the lines of a slab's Dump.
func dump(t *testing.T, d *slab.Slab) []string {
	t.Helper()
	counts := d.Counts()
	text, e := probe.Dump(d)
	must(t, "Dump", e)
	if now := d.Counts(); now.Writes != counts.Writes || now.Flushes != counts.Flushes {
		t.Error("the device is written, or flushed")
	}
	return strings.Split(strings.TrimSuffix(text, "\n"), "\n")
}

// has: those lines stand there, in that order.
func has(t *testing.T, name string, lines []string, want ...string) {
	t.Helper()
	for _, line := range want {
		at := slices.Index(lines, line)
		if at < 0 {
			t.Errorf("%s: no %q in\n%s", name, line, strings.Join(lines, "\n"))
			return
		}
		lines = lines[at+1:]
	}
}

// P15.1: keyslots that are sealed look random; what was taken away is zeros.
func TestOverVolume(t *testing.T) {
	for _, unit := range units {
		s := fresh(t)
		d, v := formatted(t, unit, s)
		has(t, "two keyslots", dump(t, d), "takes first", `name "v" "" "u"`, "asked 3,0", `epoch 0 cipher "aes128-xts-plain64"`, "segment 0 20 epoch 0", "rotation off", "area 0 random", "area 3 random", "dirty 0")
		must(t, "KillSlot", v.KillSlot(0))
		lines := dump(t, d)
		has(t, "one keyslot", lines, "asked 3", "area 3 random", "dirty 0")
		expect(t, "area 0", slices.Contains(lines, "area 0 random"), false)
		must(t, "RotateStart", v.RotateStart(s, api.Turn{Cipher: "null", Mode: api.ByDigests, Hot: 8}))
		_, e := v.RotateStep()
		must(t, "RotateStep", e)
		has(t, "a step", dump(t, d), "segment 0 8 epoch 1", "segment 8 12 epoch 0", "rotation 0 to 1 up digests hot 8 done 8 at 32768 size 4096", "area 3 random", "dirty 0")
	}
}

// stepped gives a device whose power went at an operation of a step, with all that was written kept; nothing, if the step was over by then.
func stepped(t *testing.T, mode int, back bool, op int) *slab.Slab {
	t.Helper()
	s := fresh(t)
	d, v := formatted(t, 512, s)
	for i := range uint64(20) {
		must(t, "Write", v.Write(i, bytes.Repeat([]byte{byte(i)}, 512)))
	}
	must(t, "RotateStart", v.RotateStart(s, api.Turn{Cipher: "null", Mode: mode, Back: back, Hot: 8}))
	must(t, "Flush", v.Flush())
	cut := &cutting{Slab: d, left: op}
	w, e := volume.Open(cut, []byte("a"), api.AnySlot, 2)
	if e == api.OK {
		_, e = w.RotateStep()
	}
	if e == api.OK {
		return nil
	}
	d.Off()
	must(t, "Restart", d.Restart(slices.Repeat([]bool{true}, len(d.Pending()))...))
	return d
}

// cutting is a slab whose power goes at an operation, of a write behind its first half.
type cutting struct {
	*slab.Slab
	left int
}

func (d *cutting) tick() bool {
	d.left--
	return d.left == 0
}

func (d *cutting) Read(at uint64, into []byte) api.Errno {
	if d.tick() {
		d.Off()
	}
	return d.Slab.Read(at, into)
}

func (d *cutting) Write(at uint64, data []byte) api.Errno {
	if d.tick() {
		d.Slab.Write(at, data[:len(data)/1024*512])
		d.Off()
	}
	return d.Slab.Write(at, data)
}

func (d *cutting) Flush() api.Errno {
	if d.tick() {
		d.Off()
	}
	return d.Slab.Flush()
}

// P15.1: a step that the power has cut short at each of its operations: whoever looks sees how far it came, and an open volume behind it is clean.
func TestOverStep(t *testing.T) {
	for mode := 1; mode <= 2; mode++ {
		for _, back := range []bool{false, true} {
			met := map[string]int{}
			for op := 1; ; op++ {
				d := stepped(t, mode, back, op)
				if d == nil {
					break
				}
				lines := dump(t, d)
				met[lines[len(lines)-1]]++
				met[lines[3]]++
				_, e := volume.Open(d, []byte("b"), api.AnySlot, 2)
				must(t, "Open", e)
				lines = dump(t, d)
				has(t, fmt.Sprint("operation ", op), lines, "takes first", "dirty 0")
				expect(t, "the last line", lines[len(lines)-1], "dirty 0")
			}
			// ByDigests the power goes once ahead of the first sector, once in the midst of the eight, and behind them
			want := []string{"takes first", "takes second mends", "dirty 0", "step right moved 0"}
			if mode == 2 {
				want = append(want, "step right moved 4", "step right moved 8")
			}
			for _, line := range want {
				expect(t, fmt.Sprint("mode ", mode, ": ", line), met[line] > 0, true)
			}
		}
	}
}
