package volume_test

import (
	"bytes"
	"fmt"
	"maps"
	"math/rand"
	"reflect"
	"slices"
	"testing"

	"coffer/api"
	"coffer/keyring"
	"coffer/slab"
	"coffer/spring"
	"coffer/volume"
)

// shadow is P14.14's model of a volume: contents, keyslots, tokens and a rotation's numbers, without a byte that is sealed.
type shadow struct {
	unit     int
	data     []byte
	slots    map[int]shadowSlot
	tokens   map[int]api.Token
	rotation api.Rotation
	epoch    uint64
	cipher   string
	state    int
	slot     int
}

type shadowSlot struct {
	pass     string
	priority int
	area     api.Area
}

// newShadow is what Format makes of a device whose data are such.
func newShadow(f api.Format, pass string, unit int, data []byte) *shadow {
	s := &shadow{unit: unit, data: bytes.Clone(data), slots: map[int]shadowSlot{}, tokens: map[int]api.Token{}, cipher: f.Cipher, state: api.Opened}
	s.slots[0] = shadowSlot{pass, f.Slot.Priority, api.Area{Offset: 32768, Size: 4096}}
	return s
}

// again gives the same in memory of its own.
func (s *shadow) again() *shadow {
	c := *s
	c.data, c.slots, c.tokens = bytes.Clone(s.data), maps.Clone(s.slots), maps.Clone(s.tokens)
	for i, x := range c.tokens {
		x.Slots = slices.Clone(x.Slots)
		c.tokens[i] = x
	}
	return &c
}

// status is what Status must tell.
func (s *shadow) status() api.Status {
	if s.state == api.Closed {
		return api.Status{State: api.Closed}
	}
	return api.Status{State: s.state, Slot: s.slot, Unit: s.unit, Count: many, Cipher: s.cipher, Epoch: s.epoch, Slots: slices.Sorted(maps.Keys(s.slots)), Rotation: s.rotation}
}

// notes is what Tokens must tell.
func (s *shadow) notes() []api.Token {
	var out []api.Token
	for _, n := range slices.Sorted(maps.Keys(s.tokens)) {
		out = append(out, s.tokens[n])
	}
	if s.state == api.Closed {
		return nil
	}
	return out
}

// free is a free place of a size; none: 0.
func (s *shadow) free(size int64) int64 {
	for at := int64(32768); at+size <= 32768+keys; at += 4096 {
		clash := s.rotation.On && at < s.rotation.Area.Offset+s.rotation.Area.Size && s.rotation.Area.Offset < at+size
		for _, x := range s.slots {
			clash = clash || at < x.area.Offset+x.area.Size && x.area.Offset < at+size
		}
		if !clash {
			return at
		}
	}
	return 0
}

// opens tells which keyslot a passphrase opens.
func (s *shadow) opens(pass string, slot int) (int, api.Errno) {
	why := api.ErrSlot
	for priority := 2; priority >= 0; priority-- {
		for _, n := range slices.Sorted(maps.Keys(s.slots)) {
			x := s.slots[n]
			if x.priority != priority || slot != n && (slot >= 0 || priority == 0) {
				continue
			}
			if x.pass == pass {
				return n, api.OK
			}
			why = api.ErrPass
		}
	}
	return -1, why
}

// act is a call with its arguments.
type act struct {
	kind     string
	at       uint64
	bytes    []byte // of a Write; of a Read as many as there are
	pass     string
	slot     int
	priority int
	stripes  int
	token    api.Token
	turn     api.Turn
}

func (a act) String() string {
	switch a.kind {
	case "Read", "Write":
		return fmt.Sprintf("%s of %d bytes at %d", a.kind, len(a.bytes), a.at)
	case "RotateStart":
		return fmt.Sprintf("RotateStart(%+v)", a.turn)
	case "Note", "Unnote":
		return fmt.Sprintf("%s(%d, %v)", a.kind, a.token.Number, a.token.Slots)
	}
	return fmt.Sprintf("%s(%q, %d, %d, %d)", a.kind, a.pass, a.slot, a.priority, a.stripes)
}

// answer is what a call tells.
type answer struct {
	e     api.Errno
	slot  int
	over  bool
	bytes string
}

// flushes tells whether a call that is answered OK has made durable what was written ahead of it.
func (a act) flushes() bool { return a.kind != "Read" && a.kind != "Write" && a.kind != "Resume" }

// does makes the call.
func (a act) does(v *volume.Volume, s *spring.Spring) answer {
	o := opts()
	o.Priority, o.Stripes = a.priority, a.stripes
	switch a.kind {
	case "Read":
		into := make([]byte, len(a.bytes))
		e := v.Read(a.at, into)
		return answer{e: e, bytes: string(into)}
	case "Write":
		return answer{e: v.Write(a.at, a.bytes)}
	case "Flush":
		return answer{e: v.Flush()}
	case "Suspend":
		return answer{e: v.Suspend()}
	case "Resume":
		return answer{e: v.Resume([]byte(a.pass), a.slot)}
	case "Close":
		return answer{e: v.Close()}
	case "AddSlot":
		n, e := v.AddSlot(s, []byte(a.pass), a.slot, o)
		return answer{e: e, slot: n}
	case "ChangeSlot":
		return answer{e: v.ChangeSlot(s, []byte(a.pass), a.slot, o)}
	case "KillSlot":
		return answer{e: v.KillSlot(a.slot)}
	case "PreferSlot":
		return answer{e: v.PreferSlot(a.slot, a.priority)}
	case "Note":
		return answer{e: v.Note(a.token)}
	case "Unnote":
		return answer{e: v.Unnote(a.token.Number)}
	case "RotateStart":
		return answer{e: v.RotateStart(s, a.turn)}
	}
	over, e := v.RotateStep()
	return answer{e: e, over: over}
}

// does makes the call on the model.
func (s *shadow) does(a act) answer {
	none := answer{}
	if a.kind == "AddSlot" {
		none.slot = -1
	}
	if a.kind == "Read" {
		none.bytes = string(make([]byte, len(a.bytes)))
	}
	kind := byte('w')
	if a.kind == "Resume" || a.kind == "Close" {
		kind = a.kind[0] | 0x20
	}
	if e := answers(s.state, kind); e != api.OK {
		none.e = e
		return none
	}
	switch a.kind {
	case "Read", "Write":
		if none.e = refusal(s.unit, many, a.at, len(a.bytes)); none.e != api.OK {
			return none
		}
		place := s.data[int(a.at)*s.unit:][:len(a.bytes)]
		if a.kind == "Write" {
			copy(place, a.bytes)
			return none
		}
		return answer{bytes: string(place)}
	case "Suspend":
		s.state = api.Suspended
	case "Resume":
		n, e := s.opens(a.pass, a.slot)
		if e == api.OK {
			s.slot, s.state = n, api.Opened
		}
		none.e = e
	case "Close":
		s.state = api.Closed
	case "RotateStart":
		none.e = s.starts(a.turn)
	case "RotateStep":
		return s.steps()
	case "Note", "Unnote":
		none.e = s.remembers(a)
	case "Flush":
	default:
		return s.changes(a)
	}
	return none
}

// changes is what becomes of the keyslots.
func (s *shadow) changes(a act) answer {
	x, there := s.slots[a.slot]
	switch {
	case a.kind == "KillSlot" && !there || a.kind == "PreferSlot" && !there:
		return answer{e: api.ErrSlot}
	case a.kind == "KillSlot" && len(s.slots) == 1:
		return answer{e: api.ErrLast}
	case a.kind == "KillSlot":
		delete(s.slots, a.slot)
		for i, t := range s.tokens {
			t.Slots = slices.DeleteFunc(slices.Clone(t.Slots), func(n int) bool { return n == a.slot })
			s.tokens[i] = t
		}
		return answer{}
	case a.kind == "PreferSlot":
		x.priority = a.priority
		s.slots[a.slot] = x
		return answer{}
	case a.kind == "ChangeSlot" && !there:
		return answer{e: api.ErrSlot}
	case a.kind == "AddSlot" && there:
		return answer{e: api.ErrThere, slot: -1}
	}
	size := int64(a.stripes*32+4095) / 4096 * 4096
	at, n := s.free(size), a.slot
	for n = max(n, 0); a.slot < 0; n++ {
		if _, there := s.slots[n]; !there {
			break
		}
	}
	if at == 0 {
		return answer{e: api.ErrFullRing, slot: map[string]int{"AddSlot": -1}[a.kind]}
	}
	s.slots[n] = shadowSlot{a.pass, a.priority, api.Area{Offset: at, Size: size}}
	if a.kind == "ChangeSlot" {
		return answer{}
	}
	return answer{slot: n}
}

// remembers is what becomes of the tokens.
func (s *shadow) remembers(a act) api.Errno {
	if a.kind == "Unnote" {
		if _, there := s.tokens[a.token.Number]; !there {
			return api.ErrMissing
		}
		delete(s.tokens, a.token.Number)
		return api.OK
	}
	for _, n := range a.token.Slots {
		if _, there := s.slots[n]; !there {
			return api.ErrSlot
		}
	}
	s.tokens[a.token.Number] = a.token
	return api.OK
}

func (s *shadow) starts(t api.Turn) api.Errno {
	size := map[int]int64{1: int64(t.Hot) * int64(s.unit), 2: int64(t.Hot) * 32}[t.Mode]
	size = (size + 4095) / 4096 * 4096
	switch {
	case s.rotation.On:
		return api.ErrRotating
	case t.Hot == 0 || size == 0:
		return api.ErrMode
	case s.free(size) == 0:
		return api.ErrFullRing
	}
	s.rotation = api.Rotation{On: true, From: s.epoch, To: s.epoch + 1, Back: t.Back, Mode: t.Mode, Hot: t.Hot, Area: api.Area{Offset: s.free(size), Size: size}}
	s.epoch++
	s.cipher = t.Cipher
	return api.OK
}

func (s *shadow) steps() answer {
	switch {
	case !s.rotation.On:
		return answer{e: api.ErrTurnOff}
	case s.rotation.Done == many:
		s.rotation = api.Rotation{}
		return answer{over: true}
	}
	s.rotation.Done = min(s.rotation.Done+s.rotation.Hot, many)
	return answer{}
}

// anyAct gives a call, of which most can be done.
func anyAct(r *rand.Rand, s *shadow) act {
	a := act{pass: string(rune('a' + r.Intn(6))), slot: r.Intn(9), priority: r.Intn(3), stripes: []int{1, 2, 128, 129}[r.Intn(4)]}
	pick := r.Intn(40)
	switch {
	case s.state == api.Suspended && pick > 4:
		a.kind = "Resume"
	case pick < 14:
		a.kind = []string{"Read", "Write"}[pick%2]
		a.at = uint64(r.Intn(many))
		n := 1 + r.Intn(many-int(a.at))
		if r.Intn(12) == 0 {
			n += 3
		}
		a.bytes = contents(s.unit, a.at, uint64(n), r.Uint64()%1000)
		if r.Intn(20) == 0 {
			a.bytes = a.bytes[:len(a.bytes)-r.Intn(len(a.bytes))]
		}
	case pick < 16:
		a.kind = "Flush"
	case pick == 16:
		a.kind = "Suspend"
	case pick == 17:
		a.kind = "Close"
	case pick < 20:
		a.kind = "AddSlot"
	case pick < 22:
		a.kind = "ChangeSlot"
	case pick < 24:
		a.kind = "KillSlot"
	case pick == 24:
		a.kind = "PreferSlot"
	case pick < 27:
		a.kind = []string{"Note", "Unnote"}[pick%2]
		a.token = api.Token{Number: r.Intn(4), Kind: "kind", Note: fmt.Sprint(r.Intn(1000))}
		for _, n := range slices.Sorted(maps.Keys(s.slots)) {
			if r.Intn(2) == 0 {
				a.token.Slots = append(a.token.Slots, n)
			}
		}
	case pick < 31:
		a.kind = "RotateStart"
		a.turn = api.Turn{Cipher: []string{"null", "aes128-ecb", "aes128-xts-plain64", "aes128-cbc-essiv:sha256"}[r.Intn(4)], Mode: 1 + r.Intn(2), Back: r.Intn(2) == 0, Hot: []uint64{1, 3, 4, 8, 11, 30, 0}[r.Intn(7)]}
	default:
		a.kind = "RotateStep"
	}
	if a.kind == "AddSlot" && r.Intn(3) > 0 || a.kind == "Resume" && r.Intn(2) == 0 {
		a.slot = -1
	}
	all := slices.Sorted(maps.Keys(s.slots))
	some := all[r.Intn(len(all))]
	if (a.kind == "ChangeSlot" || a.kind == "KillSlot" || a.kind == "PreferSlot") && r.Intn(4) > 0 {
		a.slot = some
	}
	if a.kind == "Resume" && r.Intn(2) == 0 {
		a.slot, a.pass = some, s.slots[some].pass
	}
	return a
}

// P14.14, P14.18: any calls, without crashes: each answer is the model's; so is what the volume tells of itself, and each keyslot opens by its passphrase. The numbers of workers are unlike all along.
func TestShadow(t *testing.T) {
	t.Parallel()
	for seed := range int64(12) {
		t.Run(fmt.Sprint("seed ", seed), func(t *testing.T) {
			t.Parallel()
			r := rand.New(rand.NewSource(seed))
			unit := units[seed%4]
			d, e := slab.New(unit, first(unit)+many)
			must(t, "slab.New", e)
			s := fresh(t, 1<<20)
			must(t, "Format", volume.Format(d, s, format(), []byte("a")))
			v, e := volume.Open(d, []byte("a"), -1, 1)
			must(t, "Open", e)
			must(t, "Write", v.Write(0, contents(unit, 0, many, 0)))
			m := newShadow(format(), "a", unit, contents(unit, 0, many, 0))
			master := mustMaster(t, v)
			for i := range 400 {
				a := anyAct(r, m)
				name := fmt.Sprintf("call %d: %v", i, a)
				want := m.does(a)
				if got := a.does(v, s); got != want {
					t.Fatalf("%s: %d %d %v, not %d %d %v", name, got.e, got.slot, got.over, want.e, want.slot, want.over)
				}
				told(t, name, v, m)
				if m.state == api.Closed {
					v, m.slot = reopened(t, name, d, m, master, r)
					m.state = api.Opened
					told(t, name, v, m)
				}
				if i%10 == 0 {
					allOpen(t, name, d.Copy(), m)
				}
				if t.Failed() {
					return
				}
			}
		})
	}
}

// told holds what a volume tells of itself against the model.
func told(t *testing.T, name string, v *volume.Volume, m *shadow) {
	t.Helper()
	if got, want := v.Status(), m.status(); !sameStatus(got, want) {
		t.Fatalf("%s: %+v, not %+v", name, got, want)
	}
	if got, want := v.Tokens(), m.notes(); !reflect.DeepEqual(tidy(got), tidy(want)) {
		t.Fatalf("%s: tokens %v, not %v", name, got, want)
	}
}

// reopened opens a volume in any way: it, and by which keyslot.
func reopened(t *testing.T, name string, d api.Device, m *shadow, master []byte, r *rand.Rand) (*volume.Volume, int) {
	t.Helper()
	all := slices.Sorted(maps.Keys(m.slots))
	number := all[r.Intn(len(all))]
	pass := m.slots[number].pass
	slot, e := m.opens(pass, -1)
	if e == api.OK && r.Intn(2) == 0 {
		v, e := volume.Open(d, []byte(pass), -1, 1+r.Intn(16))
		must(t, name+": Open", e)
		return v, slot
	}
	if r.Intn(2) == 0 {
		v, e := volume.Open(d, []byte(pass), number, 1+r.Intn(16))
		must(t, name+": Open", e)
		return v, number
	}
	v, e := volume.Reopen(d, master, 1+r.Intn(16))
	must(t, name+": Reopen", e)
	return v, -1
}

// allOpen finds keyslots that do not open by their passphrases.
func allOpen(t *testing.T, name string, d api.Device, m *shadow) {
	t.Helper()
	r, e := keyring.Load(d)
	must(t, name+": Load", e)
	for n, x := range m.slots {
		got, e := r.Open([]byte(x.pass), n)
		expect(t, name+": a keyslot", e, api.OK)
		if got != n {
			t.Errorf("%s: keyslot %d, not %d", name, got, n)
		}
	}
	for _, x := range r.Meta().Slots {
		if x.Area != m.slots[x.Number].area || x.Priority != m.slots[x.Number].priority {
			t.Errorf("%s: %+v, not %+v", name, x, m.slots[x.Number])
		}
	}
}
