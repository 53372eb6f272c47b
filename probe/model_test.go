package probe_test

import (
	"bytes"
	"crypto/sha256"
	"fmt"
	"math/rand"
	"reflect"
	"slices"
	"sort"
	"strings"
	"testing"

	"coffer/api"
	"coffer/header"
	"coffer/ledger"
	"coffer/spring"
)

// units are those that a device may have.
var units = []int{512, 1024, 2048, 4096}

func expect[T comparable](t *testing.T, name string, got, want T) {
	t.Helper()
	if got != want {
		t.Errorf("%s: %v, not %v", name, got, want)
	}
}

// must ends a test that cannot go on.
func must(t *testing.T, name string, got api.Errno) {
	t.Helper()
	if got != api.OK {
		t.Fatalf("%s: error %d", name, got)
	}
}

// tape is a device that counts what it is asked. A sector may be bad, and an operation may answer an error, or throw one.
type tape struct {
	t      *testing.T
	unit   int
	disk   []byte
	writes bool // it may be written: it is being made
	asked  int
	fails  int // the number of the operation that answers why
	why    api.Errno
	throws bool
	bad    map[uint64]api.Errno
}

func newTape(t *testing.T, unit int, count uint64) *tape {
	return &tape{t: t, unit: unit, disk: make([]byte, int(count)*unit)}
}

// again gives another one with the same bytes, which was asked nothing.
func (d *tape) again() *tape {
	return &tape{t: d.t, unit: d.unit, disk: bytes.Clone(d.disk)}
}

func (d *tape) Unit() int     { return d.unit }
func (d *tape) Count() uint64 { return uint64(len(d.disk) / d.unit) }

func (d *tape) begin(at uint64, n int) api.Errno {
	if n == 0 || n%d.unit != 0 || n > 4096*d.unit || at >= d.Count() || uint64(n/d.unit) > d.Count()-at {
		d.t.Errorf("%d bytes at sector %d, of %d sectors of %d bytes", n, at, d.Count(), d.unit)
		return api.ErrSector
	}
	if d.fails > 0 && d.asked >= d.fails {
		d.t.Error("it is asked behind its error")
	}
	d.asked++
	if d.asked != d.fails {
		return api.OK
	}
	if d.throws {
		panic("no answer")
	}
	return d.why
}

// Read leaves something in the list beside an error too.
func (d *tape) Read(at uint64, into []byte) api.Errno {
	e := d.begin(at, len(into))
	for i := range uint64(len(into) / d.unit) {
		if b := d.bad[at+i]; e == api.OK && b != api.OK {
			e = b
		}
	}
	copy(into, d.disk[int(at)*d.unit:])
	if e != api.OK {
		fill(into, 0xee)
	}
	return e
}

func (d *tape) Write(at uint64, data []byte) api.Errno {
	if !d.writes {
		d.t.Error("it is written")
	}
	e := d.begin(at, len(data))
	copy(d.disk[int(at)*d.unit:], data)
	return e
}

func (d *tape) Flush() api.Errno {
	if !d.writes {
		d.t.Error("it is flushed")
	}
	return api.OK
}

// sector gives a sector's bytes themselves.
func (d *tape) sector(n uint64) []byte { return d.disk[int(n)*d.unit : (int(n)+1)*d.unit] }

func fill(b []byte, with byte) {
	for i := range b {
		b[i] = with
	}
}

// noise fills bytes such that layer 6 takes them for random ones.
func noise(seed int64, b []byte) {
	rand.New(rand.NewSource(seed)).Read(b)
}

func filled(n int, c byte) string { return strings.Repeat(string([]byte{c}), n) }

// still gives metadata without a rotation, of n sectors of data: three keyslots, one of them at the end; two tokens.
func still(unit, n int) api.Meta {
	m := api.Meta{
		Label: "a label", Subsystem: "sub", UUID: "u-u-i-d", HeadSalt: filled(64, 9),
		Shape:  api.Shape{Unit: unit, Count: uint64((32768+keys)/unit + n), Head: 16384, Keys: keys},
		Digest: api.KeyDigest{Turns: 1000, Salt: filled(32, 1), Digest: filled(32, 2)},
		Slots: []api.Slot{
			{Number: 1, Priority: 1, Hash: 256, Turns: 7, Salt: filled(32, 3), Cipher: "aes256-xts-plain64", Stripes: 2, Area: api.Area{Offset: 36864, Size: 4096}},
			{Number: 4, Priority: 2, Hash: 512, Turns: 8, Salt: filled(32, 4), Cipher: "aes128-ecb", Stripes: 200, Area: api.Area{Offset: 32768 + keys - 8192, Size: 8192}},
			{Number: 30, Priority: 1, Hash: 256, Turns: 9, Salt: filled(32, 5), Cipher: "aes128-ecb", Stripes: 1, Area: api.Area{Offset: 40960, Size: 4096}},
		},
		Epochs: []api.Epoch{{Number: 5, Cipher: "null", Nonce: filled(32, 6), Check: filled(32, 7)}},
		Tokens: []api.Token{{Number: 2, Kind: "k", Slots: []int{1, 4}, Note: "a note"}, {Number: 31, Kind: "l"}},
	}
	m.Segments = ledger.Segments(m)
	return m
}

const keys = 12 * 4096

// turning gives metadata with a rotation that is on.
func turning(unit, n int, back bool, mode int, hot, done uint64) api.Meta {
	m := still(unit, n)
	m.Epochs = append(m.Epochs, api.Epoch{Number: 8, Cipher: "null", Nonce: filled(32, 8), Check: filled(32, 9)})
	m.Rotation = api.Rotation{On: true, From: 5, To: 8, Back: back, Mode: mode, Hot: hot, Done: done, Area: api.Area{Offset: 49152, Size: 16384}}
	m.Segments = ledger.Segments(m)
	return m
}

// laid gives a device with both copies of metadata, and whatever else lies on it.
func laid(t *testing.T, m api.Meta) *tape {
	t.Helper()
	d := newTape(t, m.Shape.Unit, m.Shape.Count)
	commit(t, d, m, 0, m.Shape.Head)
	return d
}

// commit writes both copies of metadata.
func commit(t *testing.T, d *tape, m api.Meta, seq uint64, head int) {
	t.Helper()
	text, e := ledger.Print(m)
	must(t, "Print", e)
	d.writes = true
	_, e = header.Commit(d, copyOf(m, seq, head, ""), text)
	must(t, "Commit", e)
	d.writes, d.asked = false, 0
}

func copyOf(m api.Meta, seq uint64, head int, text string) api.HeadCopy {
	return api.HeadCopy{Head: head, Seq: seq, Label: m.Label, Subsystem: m.Subsystem, UUID: m.UUID, Salt: m.HeadSalt, Text: text}
}

// lay writes one copy.
func lay(t *testing.T, d *tape, c api.HeadCopy) {
	t.Helper()
	b, e := header.Pack(c)
	must(t, "Pack", e)
	at := 0
	if c.Second {
		at = c.Head
	}
	copy(d.disk[at:], b)
}

// step gives metadata of a step in the midst, and lays its journal down: that of what the hotzone holds.
func step(d *tape, m api.Meta) api.Meta {
	m = tidy(m)
	r := &m.Rotation
	first, count := modelNext(m)
	zone := d.disk[int(first)*d.unit : int(first+count)*d.unit]
	journal := bytes.Clone(zone)
	if r.Mode == api.ByDigests {
		journal = nil
		for sector := range slices.Chunk(zone, d.unit) {
			sum := sha256.Sum256(sector)
			journal = append(journal, sum[:]...)
		}
	}
	sum := sha256.Sum256(journal)
	r.Active, r.Count, r.Sum = true, count, string(sum[:])
	copy(d.disk[r.Area.Offset:], journal)
	return m
}

// A second reckoning of the chapter's words, sector by sector, with Go's library.

// modelNext gives the hotzone by the device's sectors.
func modelNext(m api.Meta) (uint64, uint64) {
	r, n := m.Rotation, m.Shape.Count
	data := uint64((2*m.Shape.Head + m.Shape.Keys) / m.Shape.Unit)
	if r.Back {
		end := n - r.Done
		start := data
		if end-data > r.Hot {
			start = end - r.Hot
		}
		return start, end - start
	}
	start := data + r.Done
	end := n
	if end-start > r.Hot {
		end = start + r.Hot
	}
	return start, end - start
}

func modelSide(s api.HeadSide) (api.SeenCopy, api.Meta, bool) {
	if s.Why != api.OK {
		return api.SeenCopy{Why: s.Why}, api.Meta{}, false
	}
	m, e, place := ledger.Parse(s.Copy.Text)
	c := api.SeenCopy{Why: api.OK, Text: e, Place: place, Seq: s.Copy.Seq, Head: s.Copy.Head, Long: len(s.Copy.Text)}
	if e != api.OK {
		return c, api.Meta{}, false
	}
	m.Label, m.Subsystem, m.UUID, m.HeadSalt = s.Copy.Label, s.Copy.Subsystem, s.Copy.UUID, s.Copy.Salt
	return c, m, true
}

// modelLook tells what Look must of a device's bytes.
func modelLook(d *tape) api.Seen {
	d = d.again()
	d.writes = true
	found, e := header.Scan(d)
	must(d.t, "Scan", e)
	s := api.Seen{Unit: d.unit, Count: d.Count()}
	var metas [3]api.Meta
	var well [3]bool
	s.First, metas[1], well[1] = modelSide(found.First)
	s.Second, metas[2], well[2] = modelSide(found.Second)
	s.Takes, _ = header.Choose(found, well[1], well[2])
	if s.Takes == 0 {
		return s
	}
	c := []api.HeadCopy{{}, found.First.Copy, found.Second.Copy}[s.Takes]
	s.Meta, s.Both, s.Other = metas[s.Takes], well[3-s.Takes], metas[3-s.Takes]
	s.Mends, e = header.Mend(d.again().open(), c)
	must(d.t, "Mend", e)
	s.Fits = s.Meta.Shape.Unit == d.unit && s.Meta.Shape.Count == d.Count() && s.Meta.Shape.Head == c.Head
	if s.Fits {
		modelContent(d, &s)
	}
	return s
}

func (d *tape) open() *tape {
	d.writes = true
	return d
}

func zeros(b []byte) bool { return bytes.Count(b, []byte{0}) == len(b) }

func modelContent(d *tape, s *api.Seen) {
	claimed := map[uint64]bool{}
	area := func(slot int, a api.Area) {
		b := d.disk[a.Offset : a.Offset+a.Size]
		h, e := spring.Test(b[:min(len(b), 1<<20)])
		must(d.t, "Test", e)
		s.Areas = append(s.Areas, api.SeenArea{Slot: slot, Area: a, Zero: zeros(b), Judge: spring.Judge(h)})
		for i := a.Offset; i < a.Offset+a.Size; i += int64(d.unit) {
			claimed[uint64(i)/uint64(d.unit)] = true
		}
	}
	for _, x := range s.Meta.Slots {
		area(x.Number, x.Area)
	}
	r := s.Meta.Rotation
	if r.On {
		area(-1, r.Area)
	}
	for i := 2 * s.Meta.Shape.Head; i < 2*s.Meta.Shape.Head+s.Meta.Shape.Keys; i += d.unit {
		if n := uint64(i / d.unit); !claimed[n] && !zeros(d.sector(n)) {
			s.Dirty++
		}
	}
	if !r.Active {
		return
	}
	size := map[int]int{1: int(r.Count) * d.unit, 2: int(r.Count) * 32}[r.Mode]
	journal := d.disk[r.Area.Offset:][:size]
	if sum := sha256.Sum256(journal); string(sum[:]) != r.Sum {
		s.Journal = api.ErrJournal
		return
	}
	first, count := modelNext(s.Meta)
	for i := range count {
		sum := sha256.Sum256(d.sector(first + i))
		if r.Mode == 2 && string(sum[:]) != string(journal[i*32:(i+1)*32]) {
			s.Moved++
		}
	}
}

// tidy gives metadata with lists of their own, nil where there is nothing.
func tidy(m api.Meta) api.Meta {
	m.Slots = append([]api.Slot(nil), m.Slots...)
	m.Epochs = append([]api.Epoch(nil), m.Epochs...)
	m.Segments = append([]api.Segment(nil), m.Segments...)
	m.Tokens = append([]api.Token(nil), m.Tokens...)
	for i, t := range m.Tokens {
		m.Tokens[i].Slots = append([]int(nil), t.Slots...)
	}
	return m
}

func tidySeen(s api.Seen) api.Seen {
	s.Meta, s.Other = tidy(s.Meta), tidy(s.Other)
	s.Areas = append([]api.SeenArea(nil), s.Areas...)
	return s
}

func sameSeen(a, b api.Seen) bool { return reflect.DeepEqual(tidySeen(a), tidySeen(b)) }

func modelQuote(text string) string {
	out := `"`
	for _, c := range []byte(text) {
		if strings.ContainsRune(" !#$%&'()*+,-./0123456789:;<=>?@[]^_`{|}~", rune(c)) || c >= 'A' && c <= 'Z' || c >= 'a' && c <= 'z' {
			out += string(rune(c))
		} else {
			out += fmt.Sprintf(`\x%02x`, c)
		}
	}
	return out + `"`
}

func modelList(l []int) string {
	if len(l) == 0 {
		return "none"
	}
	return strings.ReplaceAll(strings.Trim(fmt.Sprint(l), "[]"), " ", ",")
}

func modelOrder(m api.Meta) []int {
	l := slices.Clone(m.Slots)
	sort.SliceStable(l, func(i, j int) bool {
		if l[i].Priority != l[j].Priority {
			return l[i].Priority > l[j].Priority
		}
		return l[i].Number < l[j].Number
	})
	var out []int
	for _, s := range l {
		if s.Priority == 1 || s.Priority == 2 {
			out = append(out, s.Number)
		}
	}
	return out
}

func modelCompare(a, b api.Meta) []string {
	a, b = tidy(a), tidy(b)
	var out []string
	for _, x := range [][2]string{{"Label", "label"}, {"Subsystem", "subsystem"}, {"UUID", "uuid"}, {"HeadSalt", "salt"}, {"Shape", "shape"}, {"Digest", "digest"}, {"Segments", "segments"}, {"Rotation", "rotation"}} {
		p, q := reflect.ValueOf(a).FieldByName(x[0]).Interface(), reflect.ValueOf(b).FieldByName(x[0]).Interface()
		if !reflect.DeepEqual(p, q) {
			out = append(out, x[1])
		}
	}
	for _, x := range [][2]string{{"Slots", "slot"}, {"Epochs", "epoch"}, {"Tokens", "token"}} {
		p, q := reflect.ValueOf(a).FieldByName(x[0]), reflect.ValueOf(b).FieldByName(x[0])
		out = append(out, modelLess(p, q, "- "+x[1])...)
		out = append(out, modelLess(q, p, "+ "+x[1])...)
	}
	return out
}

func modelLess(a, b reflect.Value, name string) []string {
	var out []string
next:
	for i := range a.Len() {
		for j := range b.Len() {
			if reflect.DeepEqual(a.Index(i).Interface(), b.Index(j).Interface()) {
				continue next
			}
		}
		out = append(out, fmt.Sprint(name, " ", a.Index(i).FieldByName("Number").Interface()))
	}
	return out
}

func modelCopy(c api.SeenCopy) string {
	if c.Why != 0 {
		return fmt.Sprintf("error %d", c.Why)
	}
	out := fmt.Sprintf("good seq %d head %d text %d", c.Seq, c.Head, c.Long)
	if c.Text != 0 {
		out += fmt.Sprintf(" error %d at %d", c.Text, c.Place)
	}
	return out
}

// modelLines is the chapter's table, row by row.
func modelLines(s api.Seen) []string {
	var out []string
	add := func(text string, args ...any) { out = append(out, fmt.Sprintf(text, args...)) }
	behind := func(holds bool, text string, args ...any) {
		if holds {
			out[len(out)-1] += fmt.Sprintf(text, args...)
		}
	}
	add("device %d %d", s.Unit, s.Count)
	add("first %s", modelCopy(s.First))
	add("second %s", modelCopy(s.Second))
	takes := map[int]string{1: "first", 2: "second"}[s.Takes]
	if takes == "" {
		add("takes none")
		behind(s.Mends, " mends")
		return out
	}
	add("takes %s", takes)
	behind(s.Mends, " mends")
	if s.Both {
		for _, l := range modelCompare(s.Other, s.Meta) {
			add("other %s", l)
		}
	}
	m := s.Meta
	q := modelQuote
	add("name %s %s %s", q(m.Label), q(m.Subsystem), q(m.UUID))
	add("shape %d %d %d %d", m.Shape.Unit, m.Shape.Count, m.Shape.Head, m.Shape.Keys)
	behind(!s.Fits, " unlike")
	add("digest turns %d", m.Digest.Turns)
	for _, x := range m.Slots {
		add("slot %d priority %d hash %d turns %d cipher %s stripes %d at %d size %d", x.Number, x.Priority, x.Hash, x.Turns, q(x.Cipher), x.Stripes, x.Area.Offset, x.Area.Size)
	}
	add("asked %s", modelList(modelOrder(m)))
	for _, x := range m.Epochs {
		add("epoch %d cipher %s", x.Number, q(x.Cipher))
	}
	for _, x := range m.Segments {
		add("segment %d %d epoch %d", x.Start, x.Count, x.Epoch)
	}
	r := m.Rotation
	if r.On {
		way := map[bool]string{false: "up", true: "down"}[r.Back]
		mode := map[int]string{1: "journal", 2: "digests"}[r.Mode]
		if mode == "" {
			mode = fmt.Sprint("mode ", r.Mode)
		}
		add("rotation %d to %d %s %s hot %d done %d at %d size %d", r.From, r.To, way, mode, r.Hot, r.Done, r.Area.Offset, r.Area.Size)
		behind(r.Active, " active %d", r.Count)
	} else {
		add("rotation off")
	}
	for _, x := range m.Tokens {
		add("token %d kind %s slots %s note %d", x.Number, q(x.Kind), modelList(x.Slots), len(x.Note))
	}
	return append(out, modelFound(s)...)
}

func modelFound(s api.Seen) []string {
	var out []string
	for _, a := range s.Areas {
		line := fmt.Sprint("area ", a.Slot)
		if a.Slot == -1 {
			line = "area journal"
		}
		switch {
		case a.Zero:
			line += " zeros"
		case a.Judge == 0:
			line += " random"
		default:
			line += fmt.Sprintf(" odd %d", a.Judge)
		}
		out = append(out, line)
	}
	if s.Fits {
		out = append(out, fmt.Sprint("dirty ", s.Dirty))
	}
	if s.Fits && s.Meta.Rotation.On && s.Meta.Rotation.Active {
		if s.Journal == 0 {
			out = append(out, fmt.Sprint("step right moved ", s.Moved))
		} else {
			out = append(out, fmt.Sprintf("step error %d", s.Journal))
		}
	}
	return out
}
