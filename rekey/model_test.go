package rekey_test

import (
	"bytes"
	"crypto/sha256"
	"fmt"
	"math/big"
	"reflect"
	"slices"
	"strings"
	"testing"

	"coffer/api"
	"coffer/rekey"
	"coffer/slab"
	"coffer/tweak"
)

// A second reckoning of the chapter's words, sector by sector and without bound, with Go's library.

func expect[T comparable](t *testing.T, name string, got, want T) {
	t.Helper()
	if got != want {
		t.Errorf("%s: %v, not %v", name, got, want)
	}
}

// same tells whether two metadata say the same: an empty list and nil do.
func same(a, b api.Meta) bool { return reflect.DeepEqual(tidy(a), tidy(b)) }

// tidy gives metadata with lists of their own, nil where there is nothing.
func tidy(m api.Meta) api.Meta {
	m.Slots = append([]api.Slot(nil), m.Slots...)
	m.Epochs = append([]api.Epoch(nil), m.Epochs...)
	m.Segments = append([]api.Segment(nil), m.Segments...)
	m.Tokens = append([]api.Token(nil), m.Tokens...)
	for i, t := range m.Tokens {
		m.Tokens[i].Slots = append([]int(nil), t.Slots...)
	}
	return m
}

// small gives the chapter's shape, with n sectors of data: they begin at sector 72.
func small(n int) api.Shape {
	return api.Shape{Unit: 512, Head: 16384, Keys: 4096, Count: uint64(72 + n)}
}

// shaped gives a shape with n sectors of data behind so many bytes of keyslots.
func shaped(unit, keys, n int) api.Shape {
	return api.Shape{Unit: unit, Head: 16384, Keys: keys, Count: uint64((32768+keys)/unit + n)}
}

// still gives metadata without a rotation, and with much that nobody looks at.
func still(s api.Shape) api.Meta {
	n := s.Count - uint64((2*s.Head+s.Keys)/s.Unit)
	return api.Meta{
		Label: "a label", Subsystem: "s", UUID: "u", HeadSalt: "salt", Shape: s,
		Digest:   api.KeyDigest{Turns: 7, Salt: "x", Digest: "y"},
		Slots:    []api.Slot{{Number: 3, Salt: "three", Area: api.Area{Offset: 1, Size: 2}}, {Number: 1}},
		Epochs:   []api.Epoch{{Number: 5, Cipher: "null", Nonce: "n", Sealed: "s", Check: "c"}},
		Segments: []api.Segment{{Start: 0, Count: n, Epoch: 5}},
		Tokens:   []api.Token{{Number: 9, Kind: "k", Slots: []int{3, 1}, Note: "note"}, {Number: 2, Slots: []int{1}}},
	}
}

// begun gives metadata of a rotation from epoch 5 to epoch 8 that has all of the keyslots area.
func begun(t *testing.T, s api.Shape, turn api.Turn) api.Meta {
	t.Helper()
	turn.Cipher = "aes"
	m, e := rekey.Begin(still(s), api.Epoch{Number: 8, Cipher: "aes", Nonce: "new"}, api.Area{Offset: int64(2 * s.Head), Size: int64(s.Keys)}, turn)
	if e != api.OK {
		t.Fatalf("Begin: error %d", e)
	}
	return m
}

// at gives those metadata with so many sectors done.
func at(m api.Meta, done uint64) api.Meta {
	m = tidy(m)
	m.Rotation.Done = done
	m.Segments = modelSegments(modelSectors(m.Shape), m.Rotation)
	return m
}

func modelSectors(s api.Shape) uint64 {
	return s.Count - uint64((2*s.Head+s.Keys)/s.Unit)
}

// modelNeed gives what a journal needs, counted up by steps of a sector and of an area.
func modelNeed(unit, mode int, hot uint64) int64 {
	each := unit
	if mode == 2 {
		each = 32
	}
	need := int64(0)
	for need < int64(hot)*int64(each) {
		need += int64(unit)
	}
	for need%4096 != 0 {
		need += int64(unit)
	}
	return need
}

// modelSegments tells of the first and the last sector of each kind whose they are.
func modelSegments(n uint64, r api.Rotation) []api.Segment {
	edge := r.Done
	before, behind := r.To, r.From
	if r.Back {
		edge, before, behind = n-r.Done, r.From, r.To
	}
	switch edge {
	case 0:
		return []api.Segment{{Start: 0, Count: n, Epoch: behind}}
	case n:
		return []api.Segment{{Start: 0, Count: n, Epoch: before}}
	}
	return []api.Segment{{Start: 0, Count: edge, Epoch: before}, {Start: edge, Count: n - edge, Epoch: behind}}
}

// modelNext gives the hotzone by going through the sectors that are left.
func modelNext(n uint64, r api.Rotation) (uint64, uint64) {
	low, high := r.Done, n
	if r.Back {
		low, high = 0, n-r.Done
	}
	count := uint64(0)
	for count < r.Hot && count < high-low {
		count++
	}
	if r.Back {
		low = high - count
	}
	return low, count
}

func number[N int | int64 | uint64](n N) *big.Int {
	if n < 0 {
		return big.NewInt(int64(n))
	}
	return new(big.Int).SetUint64(uint64(n))
}

func sum(a ...*big.Int) *big.Int {
	total := new(big.Int)
	for _, x := range a {
		total.Add(total, x)
	}
	return total
}

// inside tells whether a number is from low to high.
func inside(x, low, high *big.Int) bool { return x.Cmp(low) >= 0 && x.Cmp(high) <= 0 }

func modelShape(s api.Shape) bool {
	if !slices.Contains([]int{512, 1024, 2048, 4096}, s.Unit) || !slices.Contains([]int{1 << 14, 1 << 15, 1 << 16, 1 << 17, 1 << 18, 1 << 19, 1 << 20, 1 << 21, 1 << 22}, s.Head) {
		return false
	}
	if s.Keys < 4096 || s.Keys > 1<<27 || s.Keys%4096 != 0 || s.Count > 1<<32 {
		return false
	}
	bytes := new(big.Int).Mul(number(s.Count), number(s.Unit))
	return bytes.Cmp(sum(number(s.Head), number(s.Head), number(s.Keys))) > 0
}

// modelArea: of a shape that may be.
func modelArea(s api.Shape, a api.Area, mode int, hot uint64) bool {
	if mode != 1 && mode != 2 || hot < 1 || hot > 4096 {
		return false
	}
	start := number(2 * s.Head)
	end := sum(start, number(s.Keys))
	return a.Offset%4096 == 0 && a.Size%4096 == 0 && a.Size >= modelNeed(s.Unit, mode, hot) &&
		inside(number(a.Offset), start, end) && inside(sum(number(a.Offset), number(a.Size)), start, end)
}

// times tells how many epochs have a number.
func times(m api.Meta, n uint64) int {
	count := 0
	for _, p := range m.Epochs {
		if p.Number == n {
			count++
		}
	}
	return count
}

// modelWorks tells whether a Meta can be worked on.
func modelWorks(m api.Meta) bool {
	r := m.Rotation
	if !r.On || !modelShape(m.Shape) || !modelArea(m.Shape, r.Area, r.Mode, r.Hot) {
		return false
	}
	n := modelSectors(m.Shape)
	if r.Done > n || r.From >= r.To || times(m, r.From) != 1 || times(m, r.To) != 1 {
		return false
	}
	if !slices.Equal(m.Segments, modelSegments(n, r)) {
		return false
	}
	if !r.Active {
		return r.Count == 0 && r.Sum == ""
	}
	_, count := modelNext(n, r)
	return r.Done < n && r.Count == count && len(r.Sum) == 32
}

// modelBegins tells whether Begin refuses, by its arguments alone.
func modelBegins(m api.Meta, to api.Epoch, area api.Area, t api.Turn) api.Errno {
	if !modelShape(m.Shape) || len(m.Epochs) == 0 {
		return api.ErrArg
	}
	if m.Rotation.On {
		return api.ErrTurnOn
	}
	for _, p := range m.Epochs {
		if p.Number >= to.Number {
			return api.ErrArg
		}
	}
	if to.Cipher != t.Cipher || !modelArea(m.Shape, area, t.Mode, t.Hot) || len(m.Segments) != 1 {
		return api.ErrArg
	}
	s := m.Segments[0]
	if s.Start != 0 || s.Count != modelSectors(m.Shape) || times(m, s.Epoch) != 1 {
		return api.ErrArg
	}
	return api.OK
}

// event is an operation on a device, or a commit.
type event struct {
	what string // "read", "write", "flush", "commit"
	at   uint64
	data string // what is read, or written: whole sectors
	meta string // what is committed
}

func (v event) String() string {
	return fmt.Sprintf("%s at %d, %d bytes %.8x %.60s", v.what, v.at, len(v.data), v.data, v.meta)
}

// told gives metadata as a text, to be held against others.
func told(m api.Meta) string { return fmt.Sprintf("%#v", tidy(m)) }

// tape is a slab whose operations, and the commits beside them, are written down. The event number `stop`, from 1 on, answers an error, and nothing is done there.
type tape struct {
	*slab.Slab
	events []event
	metas  []api.Meta
	stop   int
	why    api.Errno
	most   int // sectors of one call
}

func (d *tape) note(v event) api.Errno {
	d.events = append(d.events, v)
	d.most = max(d.most, len(v.data)/d.Unit())
	if len(d.events) == d.stop {
		return d.why
	}
	return api.OK
}

func (d *tape) Read(at uint64, into []byte) api.Errno {
	now := make([]byte, 0, len(into))
	for i := range len(into) / d.Unit() {
		b, _ := d.Peek(at + uint64(i))
		now = append(now, b...)
	}
	if e := d.note(event{what: "read", at: at, data: string(now)}); e != api.OK {
		return e
	}
	return d.Slab.Read(at, into)
}

func (d *tape) Write(at uint64, data []byte) api.Errno {
	if e := d.note(event{what: "write", at: at, data: string(data)}); e != api.OK {
		return e
	}
	return d.Slab.Write(at, data)
}

func (d *tape) Flush() api.Errno {
	if e := d.note(event{what: "flush"}); e != api.OK {
		return e
	}
	return d.Slab.Flush()
}

func (d *tape) commit(m api.Meta) api.Errno {
	d.metas = append(d.metas, m)
	return d.note(event{what: "commit", meta: told(m)})
}

// work gives what a step works on over that tape.
func (d *tape) work(from, to *tweak.Cipher, workers int) rekey.Work {
	return rekey.Work{Device: d, From: from, To: to, Workers: workers, Commit: d.commit}
}

// single gives events of one sector each: how a run is cut into calls stands free.
func single(unit int, events []event) []event {
	var out []event
	for _, v := range events {
		if v.what != "read" && v.what != "write" {
			out = append(out, v)
			continue
		}
		for i := 0; i < len(v.data); i += unit {
			out = append(out, event{what: v.what, at: v.at + uint64(i/unit), data: v.data[i : i+unit]})
		}
	}
	return out
}

// compare holds events against those of the model, sector by sector.
func compare(t *testing.T, name string, unit int, got, want []event) {
	t.Helper()
	got, want = single(unit, got), single(unit, want)
	for i := range max(len(got), len(want)) {
		switch {
		case i >= len(got):
			t.Fatalf("%s: event %d is missing: %v", name, i, want[i])
		case i >= len(want):
			t.Fatalf("%s: event %d is too much: %v", name, i, got[i])
		case got[i] != want[i]:
			t.Fatalf("%s: event %d is %v, not %v", name, i, got[i], want[i])
		}
	}
}

// holds gives what sectors of a slab hold now.
func holds(s *slab.Slab, at, n uint64) []byte {
	var out []byte
	for i := range n {
		b, _ := s.Peek(at + i)
		out = append(out, b...)
	}
	return out
}

// moved gives sectors under the new key.
func moved(t *testing.T, w rekey.Work, unit int, first uint64, old []byte) []byte {
	t.Helper()
	var out []byte
	for i := 0; i < len(old); i += unit {
		plain, e := w.From.Open(first+uint64(i/unit), old[i:i+unit])
		if e != api.OK {
			t.Fatalf("open: error %d", e)
		}
		sealed, e := w.To.Seal(first+uint64(i/unit), plain)
		if e != api.OK {
			t.Fatalf("seal: error %d", e)
		}
		out = append(out, sealed...)
	}
	return out
}

// modelJournal gives the journal of what the hotzone held, and its sum.
func modelJournal(unit, mode int, old []byte) ([]byte, string) {
	journal := bytes.Clone(old)
	if mode == 2 {
		journal = nil
		for i := 0; i < len(old); i += unit {
			s := sha256.Sum256(old[i : i+unit])
			journal = append(journal, s[:]...)
		}
	}
	s := sha256.Sum256(journal)
	for len(journal)%unit != 0 {
		journal = append(journal, 0)
	}
	return journal, string(s[:])
}

// behind gives the metadata behind a step that is done.
func behind(m api.Meta) api.Meta {
	m = tidy(m)
	_, count := modelNext(modelSectors(m.Shape), m.Rotation)
	m.Rotation.Active, m.Rotation.Count, m.Rotation.Sum = false, 0, ""
	return at(m, m.Rotation.Done+count)
}

// ended gives the metadata behind the last step.
func ended(m api.Meta) api.Meta {
	m = tidy(m)
	to := m.Rotation.To
	m.Epochs = slices.DeleteFunc(m.Epochs, func(p api.Epoch) bool { return p.Number != to })
	m.Segments = []api.Segment{{Start: 0, Count: modelSectors(m.Shape), Epoch: to}}
	m.Rotation = api.Rotation{}
	return m
}

// active gives the metadata in the midst of a step that has read these sectors.
func active(m api.Meta, old []byte) api.Meta {
	m = tidy(m)
	_, m.Rotation.Count = modelNext(modelSectors(m.Shape), m.Rotation)
	_, m.Rotation.Sum = modelJournal(m.Shape.Unit, m.Rotation.Mode, old)
	m.Rotation.Active = true
	return m
}

// zone gives the device's sector where the next hotzone begins, the hotzone's number and its count.
func zone(m api.Meta) (uint64, uint64, uint64) {
	first, count := modelNext(modelSectors(m.Shape), m.Rotation)
	return m.Shape.Count - modelSectors(m.Shape) + first, first, count
}

// modelStep gives what a step does, of metadata that can be worked on, and the metadata behind it.
func modelStep(t *testing.T, s *slab.Slab, w rekey.Work, m api.Meta) ([]event, api.Meta) {
	t.Helper()
	unit, area := m.Shape.Unit, m.Rotation.Area
	journalAt := uint64(area.Offset) / uint64(unit)
	place, first, count := zone(m)
	if count == 0 {
		done := ended(m)
		return []event{
			{what: "commit", meta: told(done)},
			{what: "write", at: journalAt, data: strings.Repeat("\x00", int(area.Size))},
			{what: "flush"},
		}, done
	}
	old := holds(s, place, count)
	journal, _ := modelJournal(unit, m.Rotation.Mode, old)
	done := behind(m)
	return []event{
		{what: "read", at: place, data: string(old)},
		{what: "write", at: journalAt, data: string(journal)},
		{what: "commit", meta: told(active(m, old))},
		{what: "write", at: place, data: string(moved(t, w, unit, first, old))},
		{what: "flush"},
		{what: "commit", meta: told(done)},
	}, done
}

// modelRecover likewise of a recovery whose journal is right.
func modelRecover(t *testing.T, s *slab.Slab, w rekey.Work, m api.Meta) ([]event, api.Meta) {
	t.Helper()
	unit, mode := m.Shape.Unit, m.Rotation.Mode
	journalAt := uint64(m.Rotation.Area.Offset) / uint64(unit)
	place, first, count := zone(m)
	var out []event
	if mode == 1 {
		old := holds(s, journalAt, count)
		out = append(out, event{what: "read", at: journalAt, data: string(old)},
			event{what: "write", at: place, data: string(moved(t, w, unit, first, old))})
	} else {
		journal := holds(s, journalAt, (count*32+uint64(unit)-1)/uint64(unit))
		now := holds(s, place, count)
		out = append(out, event{what: "read", at: journalAt, data: string(journal)}, event{what: "read", at: place, data: string(now)})
		for i := range count {
			sector := now[i*uint64(unit) : (i+1)*uint64(unit)]
			if s := sha256.Sum256(sector); bytes.Equal(s[:], journal[32*i:32*i+32]) {
				out = append(out, event{what: "write", at: place + i, data: string(moved(t, w, unit, first+i, sector))})
			}
		}
	}
	done := behind(m)
	return append(out, event{what: "flush"}, event{what: "commit", meta: told(done)}), done
}

// cipher makes one of a name, with a key of its own by a number.
func cipher(t *testing.T, spec string, seed byte) *tweak.Cipher {
	t.Helper()
	n, e := tweak.KeySize(spec)
	if e != api.OK {
		t.Fatalf("no cipher %s: %d", spec, e)
	}
	key := make([]byte, n)
	for i := range key {
		key[i] = seed + byte(i*7)
	}
	c, e := tweak.New(spec, key)
	if e != api.OK {
		t.Fatalf("cipher %s: %d", spec, e)
	}
	return c
}

// wiped gives a cipher that refuses everything.
func wiped(t *testing.T) *tweak.Cipher {
	t.Helper()
	c := cipher(t, "aes128-ecb", 1)
	c.Wipe()
	return c
}

// plain gives the contents of a sector of the data, by its number.
func plain(unit int, number uint64) []byte {
	b := make([]byte, unit)
	for i := range b {
		b[i] = byte(number) + byte(number>>8)*3 + byte(i*i)
	}
	return b
}

// laid gives a device whose data are sealed as the segments say, and with something in all areas.
func laid(t *testing.T, m api.Meta, from, to *tweak.Cipher) *slab.Slab {
	t.Helper()
	s, e := slab.New(m.Shape.Unit, m.Shape.Count)
	if e != api.OK {
		t.Fatal(e)
	}
	start := m.Shape.Count - modelSectors(m.Shape)
	for i := range start {
		s.Poke(i, bytes.Repeat([]byte{0xa7}, m.Shape.Unit))
	}
	for _, g := range m.Segments {
		c := from
		if m.Rotation.On && g.Epoch == m.Rotation.To {
			c = to
		}
		for i := g.Start; i < g.Start+g.Count; i++ {
			b, e := c.Seal(i, plain(m.Shape.Unit, i))
			if e != api.OK {
				t.Fatal(e)
			}
			s.Poke(start+i, b)
		}
	}
	return s
}

// readable tells of each sector of the data whether it is what it was, by what the segments say; at the end all are the new epoch's.
func readable(t *testing.T, name string, s *slab.Slab, m api.Meta, from, to *tweak.Cipher) {
	t.Helper()
	start, next := m.Shape.Count-modelSectors(m.Shape), uint64(0)
	for _, g := range m.Segments {
		c := from
		if g.Epoch == 8 {
			c = to
		}
		for i := g.Start; i < g.Start+g.Count; i++ {
			b, _ := s.Peek(start + i)
			if p, e := c.Open(i, b); e != api.OK || !bytes.Equal(p, plain(m.Shape.Unit, i)) {
				t.Fatalf("%s: sector %d is not what it was (%v)", name, i, m.Rotation)
			}
			next++
		}
	}
	if next != modelSectors(m.Shape) {
		t.Fatalf("%s: the segments have %d sectors", name, next)
	}
}
