package volume_test

import (
	"fmt"
	"reflect"
	"testing"

	"coffer/api"
	"coffer/spring"
	"coffer/volume"
)

// deed is a call of a volume, with arguments that it would do, or refuse, if it were let in.
type deed struct {
	name string
	kind byte // w: it needs the keys; r: Resume; c: Close
	do   func(v *volume.Volume, s *spring.Spring) (beside any, e api.Errno)
	none any // what is told beside an error
}

func alone(name string, kind byte, do func(v *volume.Volume, s *spring.Spring) api.Errno) deed {
	return deed{name, kind, func(v *volume.Volume, s *spring.Spring) (any, api.Errno) { return nil, do(v, s) }, nil}
}

// deeds gives each call that a state may refuse.
func deeds() []deed {
	turn := api.Turn{Cipher: "null", Mode: 1, Hot: 3}
	return []deed{
		alone("Read", 'w', func(v *volume.Volume, s *spring.Spring) api.Errno { return v.Read(0, make([]byte, 4096)) }),
		alone("Read of nothing", 'w', func(v *volume.Volume, s *spring.Spring) api.Errno { return v.Read(0, nil) }),
		alone("Write", 'w', func(v *volume.Volume, s *spring.Spring) api.Errno { return v.Write(0, make([]byte, 4096)) }),
		alone("Write of nothing", 'w', func(v *volume.Volume, s *spring.Spring) api.Errno { return v.Write(0, nil) }),
		alone("Flush", 'w', func(v *volume.Volume, s *spring.Spring) api.Errno { return v.Flush() }),
		alone("Suspend", 'w', func(v *volume.Volume, s *spring.Spring) api.Errno { return v.Suspend() }),
		alone("Resume", 'r', func(v *volume.Volume, s *spring.Spring) api.Errno { return v.Resume([]byte("a"), 0) }),
		alone("Resume with too much", 'r', func(v *volume.Volume, s *spring.Spring) api.Errno { return v.Resume(make([]byte, 513), 77) }),
		alone("Close", 'c', func(v *volume.Volume, s *spring.Spring) api.Errno { return v.Close() }),
		{"AddSlot", 'w', func(v *volume.Volume, s *spring.Spring) (any, api.Errno) { return pair(v.AddSlot(s, nil, -1, opts())) }, -1},
		{"AddSlot of nothing", 'w', func(v *volume.Volume, s *spring.Spring) (any, api.Errno) {
			return pair(v.AddSlot(nil, nil, 77, api.SlotOpts{}))
		}, -1},
		alone("ChangeSlot", 'w', func(v *volume.Volume, s *spring.Spring) api.Errno { return v.ChangeSlot(s, nil, 0, opts()) }),
		alone("ChangeSlot of nothing", 'w', func(v *volume.Volume, s *spring.Spring) api.Errno {
			return v.ChangeSlot(nil, nil, 77, api.SlotOpts{})
		}),
		alone("KillSlot", 'w', func(v *volume.Volume, s *spring.Spring) api.Errno { return v.KillSlot(3) }),
		alone("KillSlot of nothing", 'w', func(v *volume.Volume, s *spring.Spring) api.Errno { return v.KillSlot(77) }),
		alone("PreferSlot", 'w', func(v *volume.Volume, s *spring.Spring) api.Errno { return v.PreferSlot(0, 2) }),
		alone("PreferSlot of nothing", 'w', func(v *volume.Volume, s *spring.Spring) api.Errno { return v.PreferSlot(77, 77) }),
		alone("Note", 'w', func(v *volume.Volume, s *spring.Spring) api.Errno { return v.Note(api.Token{Number: 9, Kind: "k"}) }),
		alone("Note of nothing", 'w', func(v *volume.Volume, s *spring.Spring) api.Errno { return v.Note(api.Token{}) }),
		alone("Unnote", 'w', func(v *volume.Volume, s *spring.Spring) api.Errno { return v.Unnote(5) }),
		alone("Unnote of nothing", 'w', func(v *volume.Volume, s *spring.Spring) api.Errno { return v.Unnote(77) }),
		{"Master", 'w', func(v *volume.Volume, s *spring.Spring) (any, api.Errno) { return pair(v.Master()) }, []byte(nil)},
		alone("RotateStart", 'w', func(v *volume.Volume, s *spring.Spring) api.Errno { return v.RotateStart(s, turn) }),
		alone("RotateStart of nothing", 'w', func(v *volume.Volume, s *spring.Spring) api.Errno { return v.RotateStart(nil, api.Turn{}) }),
		{"RotateStep", 'w', func(v *volume.Volume, s *spring.Spring) (any, api.Errno) { return pair(v.RotateStep()) }, false},
	}
}

func pair[T any](x T, e api.Errno) (any, api.Errno) { return x, e }

// States: of a nil volume, and of one that nobody opened.
func TestNobody(t *testing.T) {
	for _, v := range []*volume.Volume{nil, {}} {
		if got := v.Status(); !reflect.DeepEqual(got, api.Status{}) {
			t.Errorf("Status %+v", got)
		}
		if got := v.Tokens(); len(got) != 0 {
			t.Errorf("Tokens %v", got)
		}
		for _, x := range deeds() {
			s := fresh(t, 10)
			beside, e := x.do(v, s)
			expect(t, x.name, e, api.ErrNil)
			if !reflect.DeepEqual(beside, x.none) {
				t.Errorf("%s: %v beside an error", x.name, beside)
			}
			if !alike(s, fresh(t, 10)) {
				t.Errorf("%s: drawn from the spring", x.name)
			}
		}
	}
}

// entered brings a volume into a state.
func entered(t *testing.T, st *stage, d *tape, state int) *volume.Volume {
	t.Helper()
	v := st.open(d)
	switch state {
	case api.Suspended:
		must(t, "Suspend", v.Suspend())
	case api.Closed:
		must(t, "Close", v.Close())
	case api.Stuck:
		d.plan(1, 999, 0)
		expect(t, "PreferSlot", v.PreferSlot(0, 1), 999)
	}
	d.plan(0, 0, 0)
	return v
}

// answers is the section 'States' as a table: by the state, what calls of a kind answer ahead of all else.
func answers(state int, kind byte) api.Errno {
	switch {
	case state == api.Closed:
		return api.ErrClosed
	case kind == 'c':
		return api.OK
	case state == api.Stuck:
		return api.ErrStuck
	case state == api.Suspended && kind == 'w':
		return api.ErrSuspended
	case state == api.Opened && kind == 'r':
		return api.ErrState
	}
	return api.OK
}

// States: which calls a state lets in; one that is not let in does nothing.
func TestStates(t *testing.T) {
	for i, st := range []*stage{newStage(t, 512, "aes128-xts-plain64"), newStage(t, 4096, "null").turning(api.Turn{Cipher: "aes128-ecb", Mode: 2, Hot: 2}, 3, false)} {
		m := st.meta(st.tape)
		for state := api.Opened; state <= api.Closed; state++ {
			for _, x := range deeds() {
				want := answers(state, x.kind)
				if want == api.OK {
					continue
				}
				name := fmt.Sprintf("stage %d, state %d, %s", i, state, x.name)
				d := st.tape.again()
				v := entered(t, st, d, state)
				s := st.spring.Copy()
				beside, e := x.do(v, s)
				expect(t, name, e, want)
				if !reflect.DeepEqual(beside, x.none) {
					t.Errorf("%s: %v beside an error", name, beside)
				}
				if len(d.asked) != 0 || !alike(s, st.spring) {
					t.Errorf("%s: the device was asked %v, or the spring", name, d.asked)
				}
				if state == api.Closed {
					closed(t, name, v)
				} else {
					stands(t, name, v, m, state, 0)
				}
			}
		}
	}
}

// closed holds a volume against what a closed one tells.
func closed(t *testing.T, name string, v *volume.Volume) {
	t.Helper()
	if got := v.Status(); !reflect.DeepEqual(got, api.Status{State: api.Closed}) {
		t.Errorf("%s: %+v", name, got)
	}
	if got := v.Tokens(); len(got) != 0 {
		t.Errorf("%s: tokens %v", name, got)
	}
}

// P14.6: a Flush is the device's, and nothing else; its error leaves the volume opened.
func TestFlush(t *testing.T) {
	st := newStage(t, 512, "null")
	d := st.tape.again()
	v := st.open(d)
	for _, why := range []api.Errno{api.OK, 999, api.ErrOff, api.OK} {
		d.plan(1, why, 0)
		expect(t, "Flush", v.Flush(), why)
		onlyFlushed(t, d)
		stands(t, "Flush", v, st.meta(st.tape), api.Opened, 0)
	}
}

// onlyFlushed: the device was asked for one Flush.
func onlyFlushed(t *testing.T, d *tape) {
	t.Helper()
	if len(d.asked) != 1 || d.asked[0] != flushed {
		t.Errorf("asked %v, not one Flush", d.asked)
	}
}

// P14.7: Suspend and Resume, their errors, and what they ask of the device.
func TestSuspend(t *testing.T) {
	for _, st := range []*stage{newStage(t, 1024, "aes128-xts-plain64"), newStage(t, 512, "null").turning(api.Turn{Cipher: "aes128-ecb", Mode: 1, Hot: 4, Back: true}, 2, false)} {
		m := st.meta(st.tape)
		data := contents(st.tape.unit, 0, many, 0)
		d := st.tape.again()
		v := st.open(d)
		d.plan(1, 999, 0)
		expect(t, "Suspend", v.Suspend(), 999)
		stands(t, "Suspend that failed", v, m, api.Opened, 0)
		holds(t, "Suspend that failed", v, data)
		d.plan(0, 0, 0)
		expect(t, "Suspend", v.Suspend(), api.OK)
		onlyFlushed(t, d)
		stands(t, "Suspend", v, m, api.Suspended, 0)
		for _, x := range []struct {
			pass string
			slot int
			e    api.Errno
		}{{"c", -1, api.ErrPass}, {"a", 3, api.ErrPass}, {"a", 1, api.ErrSlot}, {"a", 32, api.ErrArg}, {"a", -2, api.ErrArg}, {string(make([]byte, 513)), 77, api.ErrLong}} {
			expect(t, "Resume", v.Resume([]byte(x.pass), x.slot), x.e)
			stands(t, "Resume that failed", v, m, api.Suspended, 0)
		}
		d.plan(1, 999, 0)
		expect(t, "Resume", v.Resume([]byte("b"), -1), 999)
		stands(t, "Resume that failed", v, m, api.Suspended, 0)
		d.plan(0, 0, 0)
		expect(t, "Read", v.Read(0, make([]byte, d.unit)), api.ErrSuspended)
		if len(d.asked) != 0 {
			t.Errorf("a suspended volume asks %v", d.asked)
		}
		expect(t, "Resume", v.Resume([]byte("b"), -1), api.OK)
		if len(d.changes()) != 0 {
			t.Errorf("Resume: %v", d.changes())
		}
		stands(t, "Resume", v, m, api.Opened, 3)
		holds(t, "Resume", v, data)
		for v.Status().Rotation.On {
			_, e := v.RotateStep()
			must(t, "RotateStep", e)
			must(t, "Suspend", v.Suspend())
			must(t, "Resume", v.Resume([]byte("a"), -1))
			holds(t, "a step", v, data)
		}
	}
}

// P14.8: Close flushes the device, unless it is stuck, and ends the volume whatever the device answers.
func TestClose(t *testing.T) {
	st := newStage(t, 512, "null")
	for state := api.Opened; state <= api.Stuck; state++ {
		for _, why := range []api.Errno{api.OK, 999} {
			d := st.tape.again()
			v := entered(t, st, d, state)
			d.plan(1, why, 0)
			if state == api.Stuck {
				expect(t, "Close of a stuck one", v.Close(), api.OK)
				if len(d.asked) != 0 {
					t.Errorf("asked %v", d.asked)
				}
			} else {
				expect(t, "Close", v.Close(), why)
				onlyFlushed(t, d)
			}
			closed(t, "Close", v)
			expect(t, "Close again", v.Close(), api.ErrClosed)
		}
	}
}

// Rule 1: a device that throws instead of answering is no reason to panic, nor does it keep a volume open.
func TestThrown(t *testing.T) {
	st := newStage(t, 512, "null").turning(api.Turn{Cipher: "aes128-ecb", Mode: 1, Hot: 4}, 1, false)
	for _, x := range deeds() {
		if x.kind == 'r' {
			continue
		}
		d := st.tape.again()
		v := st.open(d)
		d.plan(1, 999, 0)
		d.throws = true
		beside, e := x.do(v, st.spring.Copy())
		if len(d.asked) == 0 {
			continue
		}
		expect(t, x.name, e, api.ErrPanic)
		if !reflect.DeepEqual(beside, x.none) {
			t.Errorf("%s: %v beside an error", x.name, beside)
		}
		if x.kind == 'c' {
			closed(t, x.name, v)
		}
	}
}
