package volume_test

import (
	"bytes"
	"fmt"
	"math"
	"slices"
	"strings"
	"testing"

	"coffer/api"
	"coffer/header"
	"coffer/keyring"
	"coffer/ledger"
	"coffer/rekey"
	"coffer/spring"
	"coffer/volume"
)

// start is RotateStart, and what it is by the layers below.
func start(turn api.Turn) twin {
	return plainTwin(fmt.Sprintf("RotateStart(%+v)", turn),
		func(v *volume.Volume, s *spring.Spring) api.Errno { return v.RotateStart(s, turn) },
		func(r *keyring.Ring, s *spring.Spring) api.Errno {
			m, e := started(r, s, turn)
			if e != api.OK {
				return e
			}
			return r.Commit(m)
		})
}

// P14.11: a rotation that begins is layer 13's Begin, with layer 10's epoch and place, committed; the data stay as they are. A volume is stuck where a ring is.
func TestRotateStart(t *testing.T) {
	st := newStage(t, 1024, "aes128-xts-plain64")
	for _, back := range []bool{false, true} {
		for _, turn := range []api.Turn{
			{Cipher: "null", Mode: 1, Hot: 1}, {Cipher: "aes256-xts-plain64", Mode: 1, Hot: 20}, {Cipher: "aes128-ecb", Mode: 2, Hot: 128}, {Cipher: "aes128-xts-plain64", Mode: 2, Hot: 640},
			{Cipher: "null", Mode: 1, Hot: 21}, {Cipher: "null", Mode: 2, Hot: 641}, {Cipher: "null", Mode: 2, Hot: 4096}, {Cipher: "null", Mode: 1, Hot: 4096}, // no room
		} {
			turn.Back = back
			x := start(turn)
			ops := compared(t, x.name, st, x, 0, 0)
			for op := 1; op <= ops; op++ {
				compared(t, fmt.Sprintf("%s, operation %d", x.name, op), st, x, op, op%3)
			}
		}
	}
}

// beginning is what RotateStart works on, and what is done to it ahead of the call.
type beginning struct {
	t      *testing.T
	st     *stage
	tape   *tape
	spring *spring.Spring
	turn   api.Turn
	full   bool // the text has no room for more
	last   bool // the sequence number is the last one
}

// committed commits metadata to which something was done.
func (b *beginning) committed(do func(r *keyring.Ring, m *api.Meta)) {
	b.t.Helper()
	r := b.st.ring(b.tape)
	m := r.Meta()
	do(r, &m)
	must(b.t, "Commit", r.Commit(m))
}

// filled adds tokens, as long as there is room for a byte.
func (b *beginning) filled() {
	r := b.st.ring(b.tape)
	for number, n := 10, 4096; n > 0; {
		if r.Note(api.Token{Number: number, Kind: "k", Note: strings.Repeat("n", n)}) == api.OK {
			number++
		} else {
			n /= 2
		}
	}
}

// numberedLast gives the header the last sequence number.
func (b *beginning) numberedLast() {
	m := b.st.ring(b.tape).Meta()
	text, e := ledger.Print(m)
	must(b.t, "Print", e)
	c := api.HeadCopy{Head: m.Shape.Head, Seq: api.MaxSeq - 1, Label: m.Label, Subsystem: m.Subsystem, UUID: m.UUID, Salt: m.HeadSalt}
	_, e = header.Commit(b.tape, c, text)
	must(b.t, "Commit", e)
}

// notBegun lists what RotateStart refuses.
func notBegun(t *testing.T) []wrong[beginning] {
	var out []wrong[beginning]
	add := func(rank int, e api.Errno, name string, do func(a *beginning)) {
		out = append(out, wrong[beginning]{name, rank, e, do})
	}
	add(1, api.ErrNil, "no spring", func(a *beginning) { a.spring = nil })
	add(2, api.ErrRotating, "a rotation is on", func(a *beginning) {
		a.committed(func(r *keyring.Ring, m *api.Meta) {
			to, _ := r.Epoch(fresh(t, 10), m.Epochs[0].Number+1, "null")
			if m.Epochs[0].Number == api.MaxEpoch {
				to, _ = r.Epoch(fresh(t, 10), 1<<62, "null")
				m.Epochs[0], _ = r.Epoch(fresh(t, 10), 1<<62-1, "null")
				m.Segments[0].Epoch--
			}
			m.Tokens = nil
			for _, x := range m.Slots[1:] { // there is room for it
				m.Slots = slices.DeleteFunc(m.Slots, func(y api.Slot) bool { return y == x })
			}
			begun, e := rekey.Begin(*m, to, api.Area{Offset: 2*16384 + 4096, Size: 4096}, api.Turn{Cipher: "null", Mode: 1, Hot: 1})
			must(t, "Begin", e)
			*m = begun
		})
	})
	for _, mode := range []int{math.MinInt, -1, 0, 3, math.MaxInt} {
		add(3, api.ErrMode, fmt.Sprint("mode ", mode), func(a *beginning) { a.turn.Mode = mode })
	}
	for _, hot := range []uint64{0, 4097, 1 << 32, 1 << 63, math.MaxUint64} {
		add(3, api.ErrMode, fmt.Sprint("Hot ", hot), func(a *beginning) { a.turn.Hot = hot })
	}
	for _, cipher := range []string{"", "rot13", "aes128-xts-plain65"} {
		add(4, api.ErrArg, "cipher "+cipher, func(a *beginning) { a.turn.Cipher = cipher })
	}
	add(4, api.ErrArg, "the last epoch", func(a *beginning) {
		a.committed(func(r *keyring.Ring, m *api.Meta) {
			if m.Rotation.On {
				return
			}
			m.Epochs[0], _ = r.Epoch(fresh(t, 10), api.MaxEpoch, "null")
			m.Segments[0].Epoch = api.MaxEpoch
		})
	})
	add(5, api.ErrFullRing, "a great hotzone", func(a *beginning) { a.turn.Mode, a.turn.Hot = 1, 4096 })
	add(5, api.ErrFullRing, "no free place", func(a *beginning) {
		r := a.st.ring(a.tape)
		for e := api.OK; e == api.OK; {
			_, e = r.Add(fresh(t, 100), nil, -1, opts())
		}
	})
	add(6, api.ErrThirst, "a spring that is empty", func(a *beginning) { a.thirsty(0) })
	add(6, api.ErrThirst, "a spring that is empty behind a draw", func(a *beginning) { a.thirsty(1) })
	add(7, api.ErrHeadField, "the last number", func(a *beginning) { a.last = true })
	add(8, api.ErrHeadText, "no room in the text", func(a *beginning) { a.full = true })
	return out
}

// thirsty has the spring refuse behind so many draws.
func (b *beginning) thirsty(draws int) {
	if b.spring == nil {
		return
	}
	s := fresh(b.t, 5)
	for s.Left() > draws {
		s.Draw(1)
	}
	b.spring = s
}

// P14.11: what is refused, in its order; nothing is written then, and nothing drawn ahead of the spring's turn.
func TestRotateRefused(t *testing.T) {
	st := newStage(t, 512, "aes128-ecb")
	pairs(notBegun(t), func(name string, e api.Errno, do ...func(a *beginning)) {
		a := beginning{t: t, st: st, tape: st.tape.again(), spring: fresh(t, 100), turn: api.Turn{Cipher: "aes256-ecb", Mode: 1, Hot: 8}}
		for _, x := range do {
			x(&a)
		}
		if a.full {
			a.filled()
		}
		if a.last {
			a.numberedLast()
		}
		v, opened := volume.Reopen(a.tape, st.master, 1)
		must(t, name+": Reopen", opened)
		m := st.meta(a.tape)
		a.tape.plan(0, 0, 0)
		before := a.spring.Copy()
		expect(t, name, v.RotateStart(a.spring, a.turn), e)
		if len(a.tape.changes()) != 0 {
			t.Errorf("%s: %v", name, a.tape.changes())
		}
		stands(t, name, v, m, api.Opened, -1)
		drawn := e == api.ErrThirst || e == api.ErrHeadField || e == api.ErrHeadText
		if !drawn && a.spring != nil && !alike(a.spring, before) {
			t.Errorf("%s: drawn", name)
		}
	})
}

// P14.11: what is drawn, and the epoch that is made of it: its key opens what is written from then on.
func TestDrawn(t *testing.T) {
	st := newStage(t, 512, "aes128-ecb")
	d := st.tape.again()
	v := st.open(d)
	s := fresh(t, 100)
	must(t, "RotateStart", v.RotateStart(s, api.Turn{Cipher: "aes256-xts-plain64", Mode: 2, Hot: 7}))
	other := fresh(t, 100)
	nonce, _ := other.Draw(32)
	key, _ := other.Draw(64)
	r := st.ring(d.again())
	p := r.Meta().Epochs[1]
	got, e := r.Key(1)
	if p.Number != 1 || p.Nonce != string(nonce) || !bytes.Equal(got, key) || e != api.OK || !alike(s, other) {
		t.Errorf("epoch %+v, key %x", p, got)
	}
}

// P14.12: a step is layer 13's, with the ring's commits: the same operations and bytes, at each place of each kind of rotation; an error at whichever operation is answered, and the volume is stuck.
func TestRotateStep(t *testing.T) {
	t.Parallel()
	base := newStage(t, 512, "aes128-xts-plain64")
	for mode := 1; mode <= 2; mode++ {
		for _, back := range []bool{false, true} {
			for steps := 0; steps <= 4; steps++ { // four: all is moved, and the next one is the last
				t.Run(fmt.Sprintf("mode %d, back %v, %d steps", mode, back, steps), func(t *testing.T) {
					t.Parallel()
					st := base.turning(api.Turn{Cipher: "aes128-ecb", Mode: mode, Back: back, Hot: 6}, steps, false)
					ops := stepped(t, "no error", st, 0, 0, steps == 4)
					for op := 1; op <= ops; op++ {
						for part := range 3 {
							stepped(t, fmt.Sprintf("operation %d, part %d", op, part), st, op, part, steps == 4)
						}
					}
				})
			}
		}
	}
}

// stepped makes a step both ways, with an error at one operation: how many operations there were.
func stepped(t *testing.T, name string, st *stage, op, part int, last bool) int {
	t.Helper()
	one, two := st.tape.again(), st.tape.again()
	v, r := st.open(one), st.ring(two)
	must(t, "Sweep", r.Sweep())
	w := workOf(t, r, 2)
	one.plan(op, 999, part)
	two.plan(op, 999, part)
	over, e := v.RotateStep()
	_, also, why := rekey.Step(w, r.Meta())
	expect(t, name, e, why)
	if over != also || over != (last && e == api.OK) {
		t.Errorf("%s: over: %v", name, over)
	}
	if !slices.Equal(one.asked, two.asked) || !bytes.Equal(one.disk, two.disk) {
		t.Errorf("%s: %v, not %v", name, one.asked, two.asked)
	}
	data := contents(512, 0, many, 0)
	if op == 0 {
		stands(t, name, v, r.Meta(), api.Opened, 0)
		holds(t, name, v, data)
		return len(two.asked)
	}
	stands(t, name, v, r.Meta(), api.Stuck, 0)
	expect(t, name+": Read", v.Read(0, make([]byte, 512)), api.ErrStuck)
	_, e = v.RotateStep()
	expect(t, name+": again", e, api.ErrStuck)
	expect(t, name+": Close", v.Close(), api.OK)
	before := st.meta(st.tape).Rotation
	one.plan(0, 0, 0)
	v = st.open(one)
	holds(t, name, v, data)
	if now := v.Status().Rotation; now.On && now.Done != before.Done && now.Done != min(before.Done+before.Hot, many) || now.Active || !now.On && !last {
		t.Errorf("%s: %+v behind %+v", name, now, before)
	}
	return 0
}

// 0.6: a step whose commit is refused, as the number is the last one, leaves the volume stuck too.
func TestStepRefused(t *testing.T) {
	st := newStage(t, 512, "null").turning(api.Turn{Cipher: "aes128-ecb", Mode: 1, Hot: 6}, 1, false)
	b := beginning{t: t, st: st, tape: st.tape.again()}
	b.numberedLast()
	v := st.open(b.tape)
	over, e := v.RotateStep()
	expect(t, "RotateStep", e, api.ErrHeadField)
	if over {
		t.Error("over")
	}
	stands(t, "RotateStep", v, st.meta(b.tape), api.Stuck, 0)
	expect(t, "Close", v.Close(), api.OK)
	holds(t, "opened again", st.open(b.tape), contents(512, 0, many, 0))
}

// P14.12: without a rotation no step is made, and the volume is not stuck.
func TestStepOff(t *testing.T) {
	st := newStage(t, 512, "null")
	d := st.tape.again()
	v := st.open(d)
	d.plan(0, 0, 0)
	over, e := v.RotateStep()
	expect(t, "RotateStep", e, api.ErrTurnOff)
	if over || len(d.asked) != 0 {
		t.Errorf("over: %v, asked %v", over, d.asked)
	}
	stands(t, "RotateStep", v, st.meta(st.tape), api.Opened, 0)
}

// P14.16, P14.17, P14.18: rotations of all kinds, one behind the other: so many steps end each of them; at each step all data can be read, and written; in the end nothing is left of the old epoch.
func TestRotations(t *testing.T) {
	t.Parallel()
	for _, unit := range units {
		st := newStage(t, unit, "aes128-xts-plain64")
		d := st.tape.again()
		v, e := volume.Open(d, []byte("b"), -1, 5)
		must(t, "Open", e)
		data := contents(unit, 0, many, 0)
		epoch := uint64(0)
		for _, mode := range []int{1, 2} {
			for _, back := range []bool{false, true} {
				for _, hot := range []uint64{1, 2, 5, 20, 21, 22, 100} {
					cipher := []string{"aes128-ecb", "null", "aes256-cbc-essiv:sha256", "aes256-xts-plain64"}[(epoch+hot)%4]
					turn := api.Turn{Cipher: cipher, Mode: mode, Back: back, Hot: hot}
					name := fmt.Sprintf("unit %d, %+v", unit, turn)
					e := v.RotateStart(st.spring, turn)
					if e == api.ErrFullRing && mode == 1 && hot*uint64(unit) > 5*4096 {
						continue
					}
					must(t, name, e)
					epoch++
					turned(t, name, v, data, turn)
					rotated(t, name, st, d, v, data, cipher, epoch)
				}
			}
		}
		if epoch < 20 {
			t.Errorf("unit %d: %d rotations", unit, epoch)
		}
	}
}

// turned goes to the end of a rotation.
func turned(t *testing.T, name string, v *volume.Volume, data []byte, turn api.Turn) {
	t.Helper()
	unit := uint64(v.Status().Unit)
	steps, done := (many+turn.Hot-1)/turn.Hot+1, uint64(0)
	for i := uint64(1); i <= steps; i++ {
		at := (i * 5) % many
		copy(data[at*unit:(at+1)*unit], content(int(unit), i, turn.Hot+7))
		expect(t, name+": Write", v.Write(at, data[at*unit:(at+1)*unit]), api.OK)
		over, e := v.RotateStep()
		must(t, name, e)
		if over != (i == steps) {
			t.Fatalf("%s: step %d of %d: over %v", name, i, steps, over)
		}
		done = min(done+turn.Hot, many)
		if r := v.Status().Rotation; r.On == over || r.On && r.Done != done || r.Active {
			t.Fatalf("%s: step %d: %+v", name, i, r)
		}
		holds(t, name, v, data)
	}
}

// rotated is P14.17.
func rotated(t *testing.T, name string, st *stage, d *tape, v *volume.Volume, data []byte, cipher string, epoch uint64) {
	t.Helper()
	if s := v.Status(); s.Cipher != cipher || s.Epoch != epoch || s.Rotation != (api.Rotation{}) {
		t.Errorf("%s: %+v", name, s)
	}
	if !bytes.Equal(st.raw(d), data) {
		t.Errorf("%s: other data on the device", name)
	}
	f, e := header.Scan(d.again())
	must(t, name, e)
	for _, side := range []api.HeadSide{f.First, f.Second} {
		m, e, _ := ledger.Parse(side.Copy.Text)
		expect(t, name, side.Why, api.OK)
		expect(t, name, e, api.OK)
		if len(m.Epochs) != 1 || m.Epochs[0].Number != epoch || len(m.Segments) != 1 || m.Segments[0].Epoch != epoch {
			t.Errorf("%s: %+v, %+v", name, m.Epochs, m.Segments)
		}
		unclaimed(t, name, m, d.disk)
	}
}

// unclaimed finds bytes of the keyslots area that lie in no area and are not zero.
func unclaimed(t *testing.T, name string, m api.Meta, disk []byte) {
	t.Helper()
	b := bytes.Clone(disk[2*m.Shape.Head:][:m.Shape.Keys])
	blank := func(a api.Area) { clear(b[a.Offset-int64(2*m.Shape.Head):][:a.Size]) }
	for _, x := range m.Slots {
		blank(x.Area)
	}
	if m.Rotation.On {
		blank(m.Rotation.Area)
	}
	if len(bytes.Trim(b, "\x00")) > 0 {
		t.Errorf("%s: bytes in no area that are not zero", name)
	}
}
