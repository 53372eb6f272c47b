package volume_test

import (
	"bytes"
	"reflect"
	"slices"
	"testing"

	"coffer/api"
	"coffer/keyring"
	"coffer/rekey"
	"coffer/spring"
	"coffer/tweak"
	"coffer/volume"
)

// units are those that a device may have.
var units = []int{512, 1024, 2048, 4096}

// expect holds an error against the one that must be.
func expect(t *testing.T, name string, got, want api.Errno) {
	t.Helper()
	if got != want {
		t.Errorf("%s: error %d, not %d", name, got, want)
	}
}

// must ends a test that cannot go on.
func must(t *testing.T, name string, got api.Errno) {
	t.Helper()
	if got != api.OK {
		t.Fatalf("%s: error %d", name, got)
	}
}

// event is an operation of a device: r, w or f.
type event struct {
	kind byte
	at   uint64
	n    int
}

var flushed = event{'f', 0, 0}

// tape is a device that writes down what it is asked, and answers an error at one operation, or throws one there, if it is told so.
type tape struct {
	t      *testing.T
	unit   int
	disk   []byte
	asked  []event
	fails  int // the number of the operation that answers why
	why    api.Errno
	part   int // so many sectors of a write that fails are written
	throws bool
	spoils bool // what is handed in to be written is overwritten behind that
}

// again gives another one with the same bytes, which was asked nothing.
func (d *tape) again() *tape {
	return &tape{t: d.t, unit: d.unit, disk: bytes.Clone(d.disk)}
}

// plan has the operation of a number, counted from now on, answer an error.
func (d *tape) plan(op int, why api.Errno, part int) {
	d.fails, d.why, d.part, d.asked, d.throws = op, why, part, nil, false
}

func (d *tape) Unit() int     { return d.unit }
func (d *tape) Count() uint64 { return uint64(len(d.disk) / d.unit) }

// begin writes an operation down: its error.
func (d *tape) begin(kind byte, at uint64, n int) api.Errno {
	if kind != 'f' && (n == 0 || n%d.unit != 0 || n > 4096*d.unit || at >= d.Count() || uint64(n/d.unit) > d.Count()-at) {
		d.t.Errorf("%c of %d bytes at sector %d, of %d sectors of %d bytes", kind, n, at, d.Count(), d.unit)
		return api.ErrSector
	}
	d.asked = append(d.asked, event{kind, at, n / d.unit})
	if len(d.asked) != d.fails {
		return api.OK
	}
	if d.throws {
		panic("no answer")
	}
	return d.why
}

// Read leaves something in the list beside an error too: a call that hands it the user's would show it.
func (d *tape) Read(at uint64, into []byte) api.Errno {
	e := d.begin('r', at, len(into))
	if e == api.OK {
		copy(into, d.disk[int(at)*d.unit:])
	} else {
		fill(into, 0xee)
	}
	return e
}

func (d *tape) Write(at uint64, data []byte) api.Errno {
	e := d.begin('w', at, len(data))
	n := len(data)
	if e != api.OK {
		n = min(n, d.part*d.unit)
	}
	copy(d.disk[int(at)*d.unit:], data[:n])
	if d.spoils {
		fill(data, 0xdd)
	}
	return e
}

func (d *tape) Flush() api.Errno { return d.begin('f', 0, 0) }

// changes gives the writes and flushes; writes of one behind the other as one.
func (d *tape) changes() []event {
	var out []event
	for _, e := range d.asked {
		last := len(out) - 1
		switch {
		case e.kind == 'r':
		case last >= 0 && e.kind == 'w' && out[last].kind == 'w' && out[last].at+uint64(out[last].n) == e.at:
			out[last].n += e.n
		default:
			out = append(out, e)
		}
	}
	return out
}

func fill(b []byte, with byte) {
	for i := range b {
		b[i] = with
	}
}

// opts gives options of a keyslot that is quick.
func opts() api.SlotOpts {
	return api.SlotOpts{Priority: 1, Hash: 256, Turns: 1, Cipher: "aes128-ecb", Stripes: 2}
}

// format gives a volume's format, whose keyslots area has room for seven small areas.
func format() api.Format {
	return api.Format{Label: "v", UUID: "u", Head: 16384, Keys: keys, Cipher: "aes128-xts-plain64", DigestTurns: 1, Slot: opts()}
}

const (
	keys = 7 * 4096
	many = 21 // sectors of the data
)

// first tells where the data begin.
func first(unit int) uint64 { return uint64((2*16384 + keys) / unit) }

// fresh gives a spring that always gives the same.
func fresh(t *testing.T, limit int) *spring.Spring {
	t.Helper()
	s, e := spring.New(256, limit, bytes.Repeat([]byte{7}, 32), nil, nil)
	must(t, "spring.New", e)
	return s
}

// alike tells whether two springs go on alike.
func alike(a, b *spring.Spring) bool {
	if a.Left() != b.Left() {
		return false
	}
	x, _ := a.Copy().Draw(32)
	y, _ := b.Copy().Draw(32)
	return bytes.Equal(x, y)
}

// content gives what a sector holds, told by two numbers.
func content(unit int, a, b uint64) []byte {
	out := make([]byte, unit)
	for i := range out {
		out[i] = byte(a*31 + b*101 + uint64(i)*7 + uint64(i/256)*13)
	}
	return out
}

// contents gives so many sectors from one on.
func contents(unit int, from, count, b uint64) []byte {
	var out []byte
	for i := range count {
		out = append(out, content(unit, from+i, b)...)
	}
	return out
}

// stage is a device with a volume on it that no call of package volume made.
type stage struct {
	t      *testing.T
	tape   *tape
	spring *spring.Spring
	master []byte
}

// newStage makes a volume by the layers below: the keyslots 0 ("a") and 3 ("b"), which is asked first; a token; the data sealed.
func newStage(t *testing.T, unit int, cipher string) *stage {
	t.Helper()
	d := &tape{t: t, unit: unit, disk: make([]byte, 2*16384+keys+many*unit)}
	for i := range d.disk {
		d.disk[i] = byte(i % 251) // whatever was there
	}
	s := fresh(t, 1<<20)
	f := format()
	f.Cipher = cipher
	r, e := keyring.Make(d, s, f, []byte("a"))
	must(t, "Make", e)
	o := opts()
	o.Priority = 2
	_, e = r.Add(s, []byte("b"), 3, o)
	must(t, "Add", e)
	must(t, "Note", r.Note(api.Token{Number: 5, Kind: "k", Slots: []int{0, 3}, Note: "a note"}))
	must(t, "Note", r.Note(api.Token{Number: 2, Kind: "l", Slots: []int{3}}))
	master, e := r.Master()
	must(t, "Master", e)
	c := cipherOf(t, r, 0)
	for i := range uint64(many) {
		b, e := c.Seal(i, content(unit, i, 0))
		must(t, "Seal", e)
		must(t, "Write", d.Write(first(unit)+i, b))
	}
	d.asked = nil
	return &stage{t, d, s, master}
}

// ring gives the keys of what a device holds, by the layers below.
func (st *stage) ring(d api.Device) *keyring.Ring {
	st.t.Helper()
	r, e := keyring.Load(d)
	must(st.t, "Load", e)
	must(st.t, "Unlock", r.Unlock(st.master))
	return r
}

// turning begins a rotation by the layers below, and goes so many steps; then to the midst of the next one, if it is asked for.
func (st *stage) turning(turn api.Turn, steps int, midst bool) *stage {
	st.t.Helper()
	d := st.tape.again()
	out := &stage{st.t, d, st.spring.Copy(), st.master}
	r := st.ring(d)
	begun, e := started(r, out.spring, turn)
	must(st.t, "Begin", e)
	must(st.t, "Commit", r.Commit(begun))
	for range steps {
		_, _, e := rekey.Step(workOf(st.t, r, 1), r.Meta())
		must(st.t, "Step", e)
	}
	if midst {
		w := workOf(st.t, r, 1)
		commits := 0
		w.Commit = func(m api.Meta) api.Errno {
			commits++
			if commits == 2 {
				return 999
			}
			return r.Commit(m)
		}
		_, _, e := rekey.Step(w, r.Meta())
		expect(st.t, "a step that is cut short", e, 999)
		half := first(d.unit) + r.Meta().Rotation.Done // sectors that the crash has not kept
		if r.Meta().Rotation.Back {
			half = first(d.unit) + many - r.Meta().Rotation.Done - 1
		}
		old := st.tape.disk[int(half)*d.unit : int(half+1)*d.unit]
		copy(d.disk[int(half)*d.unit:], old)
	}
	d.asked = nil
	return out
}

// started gives the metadata of a rotation that has begun, P14.11's words a second time.
func started(r *keyring.Ring, s *spring.Spring, turn api.Turn) (api.Meta, api.Errno) {
	m := r.Meta()
	size, e := rekey.Room(m.Shape.Unit, turn.Mode, turn.Hot)
	if e != api.OK {
		return m, e
	}
	at, e := keyring.Free(m, size)
	if e != api.OK {
		return m, e
	}
	to, e := r.Epoch(s, m.Epochs[len(m.Epochs)-1].Number+1, turn.Cipher)
	if e != api.OK {
		return m, e
	}
	return rekey.Begin(m, to, api.Area{Offset: at, Size: size}, turn)
}

// cipherOf gives an epoch's cipher.
func cipherOf(t *testing.T, r *keyring.Ring, number uint64) *tweak.Cipher {
	t.Helper()
	key, e := r.Key(number)
	must(t, "Key", e)
	for _, p := range r.Meta().Epochs {
		if p.Number == number {
			c, e := tweak.New(p.Cipher, key)
			must(t, "New", e)
			return c
		}
	}
	t.Fatal("no such epoch")
	return nil
}

// workOf gives what a rotation's steps work on.
func workOf(t *testing.T, r *keyring.Ring, workers int) rekey.Work {
	t.Helper()
	x := r.Meta().Rotation
	return rekey.Work{Device: r.Device(), From: cipherOf(t, r, x.From), To: cipherOf(t, r, x.To), Workers: workers, Commit: r.Commit}
}

// open opens what a device holds.
func (st *stage) open(d api.Device) *volume.Volume {
	st.t.Helper()
	v, e := volume.Open(d, []byte("a"), 0, 3)
	must(st.t, "Open", e)
	return v
}

// raw gives the data on a device, each sector opened by its segment's key.
func (st *stage) raw(d *tape) []byte {
	st.t.Helper()
	r := st.ring(d.again())
	var out []byte
	for _, g := range r.Meta().Segments {
		c := cipherOf(st.t, r, g.Epoch)
		for i := g.Start; i < g.Start+g.Count; i++ {
			at := int(first(d.unit)+i) * d.unit
			b, e := c.Open(i, d.disk[at:at+d.unit])
			must(st.t, "Open", e)
			out = append(out, b...)
		}
	}
	return out
}

// meta gives what a device's header says.
func (st *stage) meta(d *tape) api.Meta {
	st.t.Helper()
	return st.ring(d.again()).Meta()
}

// statusOf is P14.3's words a second time.
func statusOf(m api.Meta, state, slot int) api.Status {
	n := m.Shape.Count - uint64((2*m.Shape.Head+m.Shape.Keys)/m.Shape.Unit)
	s := api.Status{State: state, Slot: slot, Unit: m.Shape.Unit, Count: n, Rotation: m.Rotation}
	for _, p := range m.Epochs {
		if s.Cipher == "" || p.Number > s.Epoch {
			s.Cipher, s.Epoch = p.Cipher, p.Number
		}
	}
	for _, x := range m.Slots {
		s.Slots = append(s.Slots, x.Number)
	}
	slices.Sort(s.Slots)
	return s
}

// tidy gives tokens with nil in the place of empty lists, in memory of their own.
func tidy(tokens []api.Token) []api.Token {
	var out []api.Token
	for _, x := range tokens {
		x.Slots = append([]int(nil), x.Slots...)
		out = append(out, x)
	}
	return out
}

// sameTokens tells whether tokens are the same; nil and an empty list are.
func sameTokens(a, b []api.Token) bool { return reflect.DeepEqual(tidy(a), tidy(b)) }

// sameStatus tells it of how volumes stand.
func sameStatus(a, b api.Status) bool {
	a.Slots, b.Slots = append([]int(nil), a.Slots...), append([]int(nil), b.Slots...)
	return reflect.DeepEqual(a, b)
}

// stands holds a volume against what it must say of itself.
func stands(t *testing.T, name string, v *volume.Volume, m api.Meta, state, slot int) {
	t.Helper()
	if got, want := v.Status(), statusOf(m, state, slot); !sameStatus(got, want) {
		t.Errorf("%s: %+v, not %+v", name, got, want)
	}
	if got := v.Tokens(); !sameTokens(got, m.Tokens) {
		t.Errorf("%s: tokens %v, not %v", name, got, m.Tokens)
	}
}

// holds reads all data of a volume and holds them against what they must be.
func holds(t *testing.T, name string, v *volume.Volume, want []byte) {
	t.Helper()
	got := make([]byte, len(want))
	expect(t, name+": Read", v.Read(0, got), api.OK)
	if !bytes.Equal(got, want) {
		t.Errorf("%s: other data", name)
	}
}
