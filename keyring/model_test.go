package keyring_test

import (
	"bytes"
	"crypto/aes"
	"crypto/hmac"
	"crypto/pbkdf2"
	"crypto/sha256"
	"crypto/sha512"
	"encoding/binary"
	"fmt"
	"hash"
	"reflect"
	"slices"
	"testing"

	"coffer/api"
	"coffer/header"
	"coffer/keyring"
	"coffer/ledger"
	"coffer/spring"
	"coffer/tweak"
)

// units are those that a device may have.
var units = []int{512, 1024, 2048, 4096}

// hasher gives the library's digest of that number of bits.
func hasher(bits int) func() hash.Hash {
	if bits == 512 {
		return sha512.New
	}
	return sha256.New
}

// modelStretch is PBKDF2 by the library.
func modelStretch(t *testing.T, bits int, pass, salt []byte, turns, n int) []byte {
	t.Helper()
	key, err := pbkdf2.Key(hasher(bits), string(pass), salt, turns, n)
	if err != nil {
		t.Fatal(err)
	}
	return key
}

func modelCode(key []byte, parts ...[]byte) []byte {
	m := hmac.New(sha256.New, key)
	for _, p := range parts {
		m.Write(p)
	}
	return m.Sum(nil)
}

// modelSplit is chapter 4's words a second time.
func modelSplit(bits int, secret []byte, stripes int, random []byte) []byte {
	d := make([]byte, len(secret))
	for i := range stripes - 1 {
		for j, b := range random[i*len(secret) : (i+1)*len(secret)] {
			d[j] ^= b
		}
		size, piece := hasher(bits)().Size(), uint32(0)
		for part := range slices.Chunk(d, size) {
			h := hasher(bits)()
			h.Write(binary.BigEndian.AppendUint32(nil, piece))
			h.Write(part)
			copy(part, h.Sum(nil))
			piece++
		}
	}
	for j, b := range secret {
		d[j] ^= b
	}
	return append(bytes.Clone(random), d...)
}

// modelWrap is RFC 3394 with the library's cipher.
func modelWrap(t *testing.T, key, plain []byte) []byte {
	t.Helper()
	c, err := aes.NewCipher(key)
	if err != nil {
		t.Fatal(err)
	}
	a := bytes.Repeat([]byte{0xa6}, 8)
	r := bytes.Clone(plain)
	n := len(plain) / 8
	for j := range 6 {
		for i := range n {
			b := append(bytes.Clone(a), r[8*i:8*i+8]...)
			c.Encrypt(b, b)
			binary.BigEndian.PutUint64(a, binary.BigEndian.Uint64(b)^uint64(n*j+i+1))
			copy(r[8*i:], b[8:])
		}
	}
	return append(a, r...)
}

// drawn gives the next random bytes as the chapter draws a piece of them.
func drawn(t *testing.T, s *spring.Spring, n int) []byte {
	t.Helper()
	var out []byte
	for len(out) < n {
		b, e := s.Draw(min(n-len(out), 65536))
		expect(t, "Draw", e, api.OK)
		out = append(out, b...)
	}
	return out
}

func keySize(t *testing.T, cipher string) int {
	t.Helper()
	n, e := tweak.KeySize(cipher)
	expect(t, "KeySize of "+cipher, e, api.OK)
	return n
}

// modelSlot is the chapter's words of a keyslot a second time: it, and the bytes of its area.
func modelSlot(t *testing.T, s *spring.Spring, number int, offset int64, o api.SlotOpts, master, pass []byte) (api.Slot, []byte) {
	t.Helper()
	salt := drawn(t, s, 32)
	material := modelSplit(o.Hash, master, o.Stripes, drawn(t, s, 32*(o.Stripes-1)))
	content := make([]byte, (32*o.Stripes+4095)/4096*4096)
	copy(content, material)
	c, e := tweak.New(o.Cipher, modelStretch(t, o.Hash, pass, salt, o.Turns, keySize(t, o.Cipher)))
	expect(t, "New", e, api.OK)
	for i := 0; i < 32*o.Stripes; i += 512 {
		b, e := c.Seal(uint64(i/512), content[i:i+512])
		expect(t, "Seal", e, api.OK)
		copy(content[i:], b)
	}
	return api.Slot{Number: number, Priority: o.Priority, Hash: o.Hash, Turns: o.Turns, Salt: string(salt), Cipher: o.Cipher, Stripes: o.Stripes, Area: api.Area{Offset: offset, Size: int64(len(content))}}, content
}

// modelEpoch is an epoch's record a second time.
func modelEpoch(t *testing.T, number uint64, cipher string, nonce, key, master []byte) api.Epoch {
	t.Helper()
	w := modelCode(master, []byte("coffer epoch"), binary.BigEndian.AppendUint64(nil, number), nonce, []byte(cipher))
	p := api.Epoch{Number: number, Cipher: cipher, Nonce: string(nonce), Check: string(modelCode(w, key))}
	if len(key) > 0 {
		p.Sealed = string(modelWrap(t, w, key))
	}
	return p
}

// made is what a volume is when it has been made.
type made struct {
	meta    api.Meta
	master  []byte
	key     []byte // of the first epoch
	content []byte // of the first keyslot's area
}

// modelMake is P10.1's metadata a second time.
func modelMake(t *testing.T, unit int, count uint64, s *spring.Spring, f api.Format, pass []byte) made {
	t.Helper()
	m := api.Meta{Label: f.Label, Subsystem: f.Subsystem, UUID: f.UUID, Shape: api.Shape{Unit: unit, Count: count, Head: f.Head, Keys: f.Keys}}
	m.HeadSalt = string(drawn(t, s, 64))
	master := drawn(t, s, 32)
	salt := drawn(t, s, 32)
	m.Digest = api.KeyDigest{Turns: f.DigestTurns, Salt: string(salt), Digest: string(modelStretch(t, 256, master, salt, f.DigestTurns, 32))}
	nonce := drawn(t, s, 32)
	key := drawn(t, s, keySize(t, f.Cipher))
	m.Epochs = []api.Epoch{modelEpoch(t, 0, f.Cipher, nonce, key, master)}
	slot, content := modelSlot(t, s, 0, int64(2*f.Head), f.Slot, master, pass)
	m.Slots = []api.Slot{slot}
	m.Segments = []api.Segment{{Count: count - uint64((2*f.Head+f.Keys)/unit)}}
	return made{m, master, key, content}
}

// copies gives the bytes of both copies of metadata.
func copies(t *testing.T, m api.Meta, seq uint64) []byte {
	t.Helper()
	text, e := ledger.Print(m)
	expect(t, "ledger.Print", e, api.OK)
	c := api.HeadCopy{Head: m.Shape.Head, Seq: seq, Label: m.Label, Subsystem: m.Subsystem, UUID: m.UUID, Salt: m.HeadSalt, Text: text}
	first, e := header.Pack(c)
	expect(t, "header.Pack", e, api.OK)
	c.Second = true
	second, e := header.Pack(c)
	expect(t, "header.Pack", e, api.OK)
	return append(first, second...)
}

// overlaid gives a device's bytes with others over them from a byte on.
func overlaid(disk []byte, at int64, b []byte) []byte {
	disk = bytes.Clone(disk)
	copy(disk[at:], b)
	return disk
}

// opts gives options of a keyslot that is quick.
func opts(change ...func(o *api.SlotOpts)) api.SlotOpts {
	o := api.SlotOpts{Priority: 1, Hash: 256, Turns: 1, Cipher: "aes128-xts-plain64", Stripes: 2}
	for _, c := range change {
		c(&o)
	}
	return o
}

// format gives a volume's format, whose keyslots area has room for four small keyslots.
func format(change ...func(f *api.Format)) api.Format {
	f := api.Format{Label: "a label", Subsystem: "what for", UUID: "u", Head: 16384, Keys: 16384, Cipher: "aes128-xts-plain64", DigestTurns: 2, Slot: opts()}
	for _, c := range change {
		c(&f)
	}
	return f
}

// fresh gives a spring that always gives the same.
func fresh(t *testing.T, limit int) *spring.Spring {
	t.Helper()
	s, e := spring.New(256, limit, bytes.Repeat([]byte{7}, 32), nil, nil)
	expect(t, "spring.New", e, api.OK)
	return s
}

// alike tells whether two springs go on alike.
func alike(a, b *spring.Spring) bool {
	if a.Left() != b.Left() {
		return false
	}
	x, _ := a.Copy().Draw(32)
	y, _ := b.Copy().Draw(32)
	return bytes.Equal(x, y)
}

// plain gives metadata with nil in the place of empty lists.
func plain(m api.Meta) api.Meta {
	if len(m.Slots) == 0 {
		m.Slots = nil
	}
	if len(m.Epochs) == 0 {
		m.Epochs = nil
	}
	if len(m.Segments) == 0 {
		m.Segments = nil
	}
	m.Tokens = slices.Clone(m.Tokens)
	if len(m.Tokens) == 0 {
		m.Tokens = nil
	}
	for i, t := range m.Tokens {
		if len(t.Slots) == 0 {
			m.Tokens[i].Slots = nil
		}
	}
	return m
}

// same tells whether metadata are the same; nil and an empty list are.
func same(a, b api.Meta) bool { return reflect.DeepEqual(plain(a), plain(b)) }

// brief tells of metadata what can be read.
func brief(m api.Meta) string {
	text, e := ledger.Print(m)
	return fmt.Sprintf("%q %q %q %x, error %d, %s", m.Label, m.Subsystem, m.UUID, m.HeadSalt, e, text)
}

// changed gives a copy of metadata that something was done to.
func changed(m api.Meta, do func(m *api.Meta)) api.Meta {
	m.Slots = slices.Clone(m.Slots)
	m.Epochs = slices.Clone(m.Epochs)
	m.Segments = slices.Clone(m.Segments)
	m.Tokens = slices.Clone(m.Tokens)
	for i, t := range m.Tokens {
		m.Tokens[i].Slots = slices.Clone(t.Slots)
	}
	do(&m)
	return m
}

// event is an operation of a device: r, w or f.
type event struct {
	kind byte
	at   uint64
	n    int
}

var flushed = event{'f', 0, 0}

// tape is a device that writes down what it is asked, and answers an error at one operation, if it is told so.
type tape struct {
	t      *testing.T
	unit   int
	disk   []byte
	asked  []event
	fails  int // the number of the operation that answers why
	why    api.Errno
	part   int // so many sectors of a write that fails are written
	failed bool
}

// newTape gives one of so many bytes, all zeros.
func newTape(t *testing.T, unit, size int) *tape {
	return &tape{t: t, unit: unit, disk: make([]byte, size)}
}

// again gives another one with the same bytes, which was asked nothing.
func (d *tape) again() *tape {
	return &tape{t: d.t, unit: d.unit, disk: bytes.Clone(d.disk)}
}

// plan has the operation of a number answer an error.
func (d *tape) plan(op int, why api.Errno, part int) *tape {
	d.fails, d.why, d.part, d.failed, d.asked = op, why, part, false, nil
	return d
}

func (d *tape) Unit() int     { return d.unit }
func (d *tape) Count() uint64 { return uint64(len(d.disk) / d.unit) }

// begin writes an operation down: its error.
func (d *tape) begin(kind byte, at uint64, n int) api.Errno {
	if d.failed {
		d.t.Errorf("%c at %d behind the device's first error", kind, at)
	}
	if kind != 'f' && (n == 0 || n%d.unit != 0 || n > 4096*d.unit || at >= d.Count() || uint64(n/d.unit) > d.Count()-at) {
		d.t.Errorf("%c of %d bytes at sector %d, of %d sectors of %d bytes", kind, n, at, d.Count(), d.unit)
		return api.ErrSector
	}
	d.asked = append(d.asked, event{kind, at, n / d.unit})
	if len(d.asked) == d.fails {
		d.failed = true
		return d.why
	}
	return api.OK
}

func (d *tape) Read(at uint64, into []byte) api.Errno {
	e := d.begin('r', at, len(into))
	if e == api.OK {
		copy(into, d.disk[int(at)*d.unit:])
	}
	return e
}

func (d *tape) Write(at uint64, data []byte) api.Errno {
	e := d.begin('w', at, len(data))
	if e != api.OK {
		data = data[:min(len(data), d.part*d.unit)]
	}
	copy(d.disk[int(at)*d.unit:], data)
	return e
}

func (d *tape) Flush() api.Errno { return d.begin('f', 0, 0) }

// wrote gives the event of a write of bytes at a byte of the device.
func (d *tape) wrote(at, n int64) event {
	return event{'w', uint64(at) / uint64(d.unit), int(n) / d.unit}
}

// committed gives the events of a commit.
func (d *tape) committed(head int) []event {
	return []event{flushed, d.wrote(int64(head), int64(head)), flushed, d.wrote(0, int64(head)), flushed}
}

// changes gives the writes and flushes; writes of one behind the other as one.
func (d *tape) changes() []event {
	var out []event
	for _, e := range d.asked {
		last := len(out) - 1
		switch {
		case e.kind == 'r':
		case last >= 0 && e.kind == 'w' && out[last].kind == 'w' && out[last].at+uint64(out[last].n) == e.at:
			out[last].n += e.n
		default:
			out = append(out, e)
		}
	}
	return out
}

// holds finds what a device should hold and does not, or was asked to write in another order.
func (d *tape) holds(name string, disk []byte, order ...event) {
	d.t.Helper()
	if !bytes.Equal(d.disk, disk) {
		d.t.Errorf("%s: the device holds other bytes", name)
	}
	if got := d.changes(); !slices.Equal(got, order) {
		d.t.Errorf("%s: %v, not %v", name, got, order)
	}
}

// expect holds an error against the one that must be.
func expect(t *testing.T, name string, got, want api.Errno) {
	t.Helper()
	if got != want {
		t.Errorf("%s: error %d, not %d", name, got, want)
	}
}

// stands holds a ring against what it must say of itself.
func stands(t *testing.T, name string, r *keyring.Ring, m api.Meta, seq uint64, locked, stuck bool) {
	t.Helper()
	if got := r.Meta(); !same(got, m) {
		t.Errorf("%s: %s, not %s", name, brief(got), brief(m))
	}
	if r.Seq() != seq || r.Locked() != locked || r.Stuck() != stuck {
		t.Errorf("%s: Seq %d, locked %v, stuck %v", name, r.Seq(), r.Locked(), r.Stuck())
	}
}

// volume is a ring over a tape, with its spring and the number of its keys.
type volume struct {
	*keyring.Ring
	tape   *tape
	spring *spring.Spring
	made
}

// newVolume makes one, with the passphrase "a" in keyslot 0; what was asked of the device till then is forgotten.
func newVolume(t *testing.T, unit int, f api.Format) *volume {
	t.Helper()
	d := newTape(t, unit, 2*f.Head+f.Keys+8*4096)
	s := fresh(t, 1<<20)
	m := modelMake(t, unit, d.Count(), s.Copy(), f, []byte("a"))
	r, e := keyring.Make(d, s, f, []byte("a"))
	if r == nil || e != api.OK {
		t.Fatalf("Make: error %d", e)
	}
	d.asked = nil
	return &volume{r, d, s, m}
}

// add adds a keyslot, which must be answered OK.
func (v *volume) add(pass string, slot int, o api.SlotOpts) int {
	v.tape.t.Helper()
	n, e := v.Add(v.spring, []byte(pass), slot, o)
	expect(v.tape.t, "Add", e, api.OK)
	v.tape.asked = nil
	return n
}

// load loads the volume's device anew.
func (v *volume) load() *keyring.Ring {
	v.tape.t.Helper()
	r, e := keyring.Load(v.tape)
	if r == nil || e != api.OK {
		v.tape.t.Fatalf("Load: error %d", e)
	}
	v.tape.asked = nil
	return r
}

// rewrite has both copies hold other metadata and another number, by hand; it is loaded anew, and opened by the master key.
func (v *volume) rewrite(m api.Meta, seq uint64) {
	v.tape.t.Helper()
	copy(v.tape.disk, copies(v.tape.t, m, seq))
	v.Ring = v.load()
	expect(v.tape.t, "Unlock", v.Unlock(v.master), api.OK)
}

// fill has tokens, in the place of those that there were, make the text so long that just so many bytes are left of its room.
func (v *volume) fill(left int) {
	t := v.tape.t
	t.Helper()
	m := v.Meta()
	m.Tokens = nil
	room := m.Shape.Head - 4097 - left
	for number := 31; ; number-- {
		m.Tokens = slices.Insert(m.Tokens, 0, api.Token{Number: number, Kind: "k"})
		text, e := ledger.Print(m)
		if e != api.OK || len(text) > room {
			t.Fatalf("ledger.Print: error %d, %d bytes, not %d", e, len(text), room)
		}
		m.Tokens[0].Note = string(bytes.Repeat([]byte("n"), min(room-len(text), 4000)))
		if room-len(text) <= 4000 {
			break
		}
	}
	expect(t, "Commit", v.Commit(m), api.OK)
	v.tape.asked = nil
}
