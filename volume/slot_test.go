package volume_test

import (
	"bytes"
	"fmt"
	"math"
	"slices"
	"testing"

	"coffer/api"
	"coffer/keyring"
	"coffer/spring"
	"coffer/volume"
)

// twin is a call of a volume, and the layers' calls that do the same.
type twin struct {
	name   string
	volume func(v *volume.Volume, s *spring.Spring) (int, api.Errno)
	ring   func(r *keyring.Ring, s *spring.Spring) (int, api.Errno)
}

func plainTwin(name string, v func(v *volume.Volume, s *spring.Spring) api.Errno, r func(r *keyring.Ring, s *spring.Spring) api.Errno) twin {
	return twin{name,
		func(x *volume.Volume, s *spring.Spring) (int, api.Errno) { return 0, v(x, s) },
		func(x *keyring.Ring, s *spring.Spring) (int, api.Errno) { return 0, r(x, s) }}
}

func add(pass string, slot int, o api.SlotOpts) twin {
	return twin{fmt.Sprintf("AddSlot(%d, %+v)", slot, o),
		func(v *volume.Volume, s *spring.Spring) (int, api.Errno) { return v.AddSlot(s, []byte(pass), slot, o) },
		func(r *keyring.Ring, s *spring.Spring) (int, api.Errno) { return r.Add(s, []byte(pass), slot, o) }}
}

func change(pass string, slot int, o api.SlotOpts) twin {
	return plainTwin(fmt.Sprintf("ChangeSlot(%d, %+v)", slot, o),
		func(v *volume.Volume, s *spring.Spring) api.Errno { return v.ChangeSlot(s, []byte(pass), slot, o) },
		func(r *keyring.Ring, s *spring.Spring) api.Errno { return r.Change(s, []byte(pass), slot, o) })
}

func kill(slot int) twin {
	return plainTwin(fmt.Sprintf("KillSlot(%d)", slot),
		func(v *volume.Volume, s *spring.Spring) api.Errno { return v.KillSlot(slot) },
		func(r *keyring.Ring, s *spring.Spring) api.Errno { return r.Kill(slot) })
}

func prefer(slot, priority int) twin {
	return plainTwin(fmt.Sprintf("PreferSlot(%d, %d)", slot, priority),
		func(v *volume.Volume, s *spring.Spring) api.Errno { return v.PreferSlot(slot, priority) },
		func(r *keyring.Ring, s *spring.Spring) api.Errno { return r.Prefer(slot, priority) })
}

func note(x api.Token) twin {
	return plainTwin(fmt.Sprintf("Note(%d, %v)", x.Number, x.Slots),
		func(v *volume.Volume, s *spring.Spring) api.Errno { return v.Note(x) },
		func(r *keyring.Ring, s *spring.Spring) api.Errno { return r.Note(x) })
}

func unnote(number int) twin {
	return plainTwin(fmt.Sprintf("Unnote(%d)", number),
		func(v *volume.Volume, s *spring.Spring) api.Errno { return v.Unnote(number) },
		func(r *keyring.Ring, s *spring.Spring) api.Errno { return r.Unnote(number) })
}

// good gives calls that write.
func good() []twin {
	o := opts()
	o.Hash, o.Stripes, o.Priority = 512, 5, 0
	return []twin{
		add("c", -1, o), add("", 31, opts()), change("d", 0, o), change("e", 3, opts()), kill(0), kill(3), prefer(0, 2), prefer(3, 0),
		note(api.Token{Number: 0, Kind: "new", Slots: []int{0}}), note(api.Token{Number: 5, Kind: "other", Note: "note"}), unnote(2), unnote(5),
	}
}

// refused gives calls that the ring refuses.
func refused() []twin {
	large, odd := opts(), opts()
	large.Stripes = 4000
	odd.Hash = 384
	long := string(make([]byte, 513))
	out := []twin{
		add("c", 3, opts()), add("c", -2, opts()), add("c", 32, opts()), add("c", -1, odd), add(long, -1, opts()), add("c", -1, large), add(long, 3, large),
		change("c", 1, opts()), change("c", -1, opts()), change("c", 0, odd), change(long, 0, opts()), change("c", 0, large), change(long, 77, odd),
		kill(1), kill(-1), kill(32), kill(math.MinInt), prefer(1, 1), prefer(0, 3), prefer(0, -1), prefer(-1, 0),
		note(api.Token{Number: 1}), note(api.Token{Number: 32, Kind: "k"}), note(api.Token{Number: 1, Kind: "k", Slots: []int{1}}), note(api.Token{Number: 1, Kind: "k", Slots: []int{3, 0}}),
		unnote(0), unnote(-1), unnote(32),
	}
	for _, x := range []twin{add("c", -1, opts()), change("c", 0, opts())} {
		out = append(out, twin{x.name + " without a spring",
			func(v *volume.Volume, s *spring.Spring) (int, api.Errno) { return x.volume(v, nil) },
			func(r *keyring.Ring, s *spring.Spring) (int, api.Errno) { return x.ring(r, nil) }})
	}
	return out
}

// P14.9: the calls are layer 10's, while a rotation is on too: the same answers, operations, bytes and draws; a volume is stuck where a ring is, at each operation that fails.
func TestSlots(t *testing.T) {
	st := newStage(t, 1024, "aes128-xts-plain64")
	for i, st := range []*stage{st, st.turning(api.Turn{Cipher: "null", Mode: 2, Hot: 5}, 2, false)} {
		for _, x := range append(good(), refused()...) {
			name := fmt.Sprintf("stage %d, %s", i, x.name)
			ops := compared(t, name, st, x, 0, 0)
			for op := 1; op <= ops; op++ {
				for part := range 3 {
					compared(t, fmt.Sprintf("%s, operation %d", name, op), st, x, op, part)
				}
			}
		}
	}
}

// compared makes a call both ways, with an error at one operation: how many operations there were.
func compared(t *testing.T, name string, st *stage, x twin, op, part int) int {
	t.Helper()
	one, two := st.tape.again(), st.tape.again()
	v, r := st.open(one), st.ring(two)
	must(t, "Sweep", r.Sweep())
	one.plan(op, 999, part)
	two.plan(op, 999, part)
	s, other := st.spring.Copy(), st.spring.Copy()
	got, e := x.volume(v, s)
	want, why := x.ring(r, other)
	expect(t, name, e, why)
	if got != want {
		t.Errorf("%s: %d, not %d", name, got, want)
	}
	if !slices.Equal(one.asked, two.asked) || !bytes.Equal(one.disk, two.disk) || !alike(s, other) {
		t.Errorf("%s: %v, not %v", name, one.asked, two.asked)
	}
	state := api.Opened
	if r.Stuck() {
		state = api.Stuck
	}
	stands(t, name, v, r.Meta(), state, 0)
	if op == 0 && state != api.Opened {
		t.Errorf("%s: stuck", name)
	}
	if state == api.Stuck {
		expect(t, name+": Read", v.Read(0, make([]byte, 1024)), api.ErrStuck)
	} else {
		holds(t, name, v, contents(1024, 0, many, 0))
	}
	return len(two.asked)
}

// P14.10: the master key, whichever way the volume was opened; it is new memory.
func TestMaster(t *testing.T) {
	st := newStage(t, 512, "null")
	for _, x := range []door{byPass("a", -1), byPass("b", -1), byMaster(st.master)} {
		v, e := x.volume(st.tape.again(), 1)
		must(t, x.name, e)
		one := mustMaster(t, v)
		if !bytes.Equal(one, st.master) {
			t.Errorf("%s: another key", x.name)
		}
		fill(one[:cap(one)], 0)
		if !bytes.Equal(mustMaster(t, v), st.master) {
			t.Errorf("%s: the key is shared", x.name)
		}
	}
}
