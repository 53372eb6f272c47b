package keyring_test

import (
	"fmt"
	"math"
	"slices"
	"strings"
	"testing"

	"coffer/api"
	"coffer/ledger"
)

// turning gives metadata of a volume with a rotation whose area lies at a place; its second epoch is a record of the ring's.
func turning(t *testing.T, v *volume, area api.Area) api.Meta {
	t.Helper()
	p, e := v.Epoch(v.spring, 7, "aes256-cbc-essiv:sha256")
	expect(t, "Epoch", e, api.OK)
	return changed(v.Meta(), func(m *api.Meta) {
		m.Epochs = append(m.Epochs, p)
		m.Rotation = api.Rotation{On: true, From: m.Epochs[0].Number, To: 7, Mode: api.ByDigests, Hot: 8, Done: 3, Area: area}
		m.Segments = ledger.Segments(*m)
	})
}

// commits finds what Commit does not do as it must.
func commits(t *testing.T, name string, v *volume, m api.Meta) {
	t.Helper()
	v.tape.asked = nil
	seq, locked := v.Seq(), v.Locked()
	disk := overlaid(v.tape.disk, 0, copies(t, m, seq+1))
	expect(t, name, v.Commit(m), api.OK)
	v.tape.holds(name, disk, v.tape.committed(m.Shape.Head)...)
	stands(t, name, v.Ring, m, seq+1, locked, false)
	stands(t, name+", loaded", v.load(), m, seq+1, true, false)
}

// P10.4: metadata of all kinds; areas are the caller's business.
func TestCommit(t *testing.T) {
	for _, unit := range units {
		v := newVolume(t, unit, format())
		commits(t, "as they are", v, v.Meta())
		commits(t, "other names", v, changed(v.Meta(), func(m *api.Meta) { m.Label, m.Subsystem, m.UUID = strings.Repeat("l", 47), "", "x" }))
		m := turning(t, v, api.Area{Offset: 40960, Size: 8192})
		commits(t, "a rotation", v, m)
		commits(t, "a step", v, changed(m, func(m *api.Meta) {
			m.Rotation.Active, m.Rotation.Count, m.Rotation.Sum = true, min(8, m.Shape.Count-uint64(49152/unit)-3), strings.Repeat("s", 32)
		}))
		v.Lock()
		commits(t, "a keyslot that was never written", v, changed(m, func(m *api.Meta) {
			s := m.Slots[0]
			s.Number, s.Area.Offset = 4, 36864
			m.Slots = append(m.Slots, s)
			m.Tokens = []api.Token{{Number: 31, Kind: "k", Slots: []int{0, 4}}}
		}))
		opens(t, "it does not open", v.Ring, "a", 4, -1, api.ErrPass)
		opens(t, "the other one does", v.Ring, "a", -1, 0, api.OK)
	}
}

// P10.4: ErrArg, ErrHeadField, ErrHeadText, in this order; nothing is written.
func TestCommitRefused(t *testing.T) {
	type committing struct {
		v *volume
		m api.Meta
	}
	all := []wrong[committing]{
		{"stuck", 0, api.ErrStuck, func(a *committing) { hitch(t, a.v) }},
		{"the last number", 2, api.ErrHeadField, func(a *committing) { a.v.rewrite(a.v.Meta(), 1<<62) }},
		{"a long label", 2, api.ErrHeadField, func(a *committing) { a.m.Label = strings.Repeat("l", 48) }},
		{"a zero in the UUID", 2, api.ErrHeadField, func(a *committing) { a.m.UUID = "u\x00" }},
		{"a long subsystem", 2, api.ErrHeadField, func(a *committing) { a.m.Subsystem = strings.Repeat("l", 48) }},
		{"no room", 3, api.ErrHeadText, func(a *committing) {
			for n := range 3 {
				a.m.Tokens = append(a.m.Tokens, api.Token{Number: n, Kind: "k", Note: strings.Repeat("n", 4096)})
			}
		}},
	}
	for name, do := range map[string]func(m *api.Meta){
		"nothing":             func(m *api.Meta) { *m = api.Meta{} },
		"no shape":            func(m *api.Meta) { m.Shape.Unit = 500 },
		"another shape":       func(m *api.Meta) { m.Shape.Keys -= 4096; m.Segments[0].Count += 8 },
		"another salt":        func(m *api.Meta) { m.HeadSalt = strings.Repeat("s", 64) },
		"a short salt":        func(m *api.Meta) { m.HeadSalt = "" },
		"other turns":         func(m *api.Meta) { m.Digest.Turns++ },
		"another digest salt": func(m *api.Meta) { m.Digest.Salt = strings.Repeat("s", 32) },
		"another digest":      func(m *api.Meta) { m.Digest.Digest = strings.Repeat("s", 32) },
		"no keyslot":          func(m *api.Meta) { m.Slots = nil },
		"no epoch":            func(m *api.Meta) { m.Epochs = nil },
		"two epochs":          func(m *api.Meta) { m.Epochs = append(m.Epochs, m.Epochs[0]); m.Epochs[1].Number = 1 },
		"a rotation":          func(m *api.Meta) { m.Rotation.On = true },
		"no segment":          func(m *api.Meta) { m.Segments = nil },
		"an area outside":     func(m *api.Meta) { m.Slots[0].Area.Offset = 0 },
		"two in one area":     func(m *api.Meta) { m.Slots = append(m.Slots, m.Slots[0]); m.Slots[1].Number = 8 },
		"a token of none":     func(m *api.Meta) { m.Tokens = []api.Token{{Kind: "k", Slots: []int{3}}} },
	} {
		all = append(all, wrong[committing]{name, 1, api.ErrArg, func(a *committing) { do(&a.m) }})
	}
	pairs(all, func(name string, want api.Errno, do ...func(a *committing)) {
		if strings.HasPrefix(name, "nothing; ") || strings.HasSuffix(name, "; nothing") {
			return // there is no list to change
		}
		v := newVolume(t, 512, format())
		a := committing{v, v.Meta()}
		func() {
			defer func() { // what was taken away cannot be changed
				if recover() != nil {
					a.m = api.Meta{}
				}
			}()
			for _, f := range do {
				f(&a)
			}
		}()
		v.tape.asked = nil
		disk, seq := slices.Clone(v.tape.disk), v.Seq()
		stuck := v.Stuck()
		expect(t, name, v.Commit(a.m), want)
		v.tape.holds(name, disk)
		stands(t, name, v.Ring, v.meta, seq, false, stuck)
	})
}

// P10.4: a text that fills its room to the last byte.
func TestCommitText(t *testing.T) {
	v := newVolume(t, 512, format())
	v.fill(0)
	m := v.Meta()
	commits(t, "to the last byte", v, m)
	i := len(m.Tokens) - 1
	expect(t, "a byte more", v.Commit(changed(m, func(m *api.Meta) { m.Tokens[i].Note += "n" })), api.ErrHeadText)
	commits(t, "a byte less", v, changed(m, func(m *api.Meta) { m.Tokens[i].Note = m.Tokens[i].Note[1:] }))
}

// P10.4: the last number of all.
func TestCommitLast(t *testing.T) {
	v := newVolume(t, 512, format())
	v.rewrite(v.Meta(), 1<<62-1)
	commits(t, "the last one", v, v.Meta())
	if v.Seq() != 1<<62 {
		t.Errorf("Seq %d", v.Seq())
	}
	expect(t, "one more", v.Commit(v.Meta()), api.ErrHeadField)
	if n, e := v.Add(v.spring, nil, -1, opts()); n != -1 || e != api.ErrHeadField {
		t.Errorf("Add: %d, error %d", n, e)
	}
	opens(t, "as ever", v.Ring, "a", -1, 0, api.OK)
	expect(t, "Sweep", v.Sweep(), api.OK)
}

// notes finds what Note does not do as it must.
func notes(t *testing.T, name string, v *volume, token api.Token) {
	t.Helper()
	v.tape.asked = nil
	seq := v.Seq()
	m := changed(v.Meta(), func(m *api.Meta) {
		m.Tokens = append(slices.DeleteFunc(m.Tokens, func(x api.Token) bool { return x.Number == token.Number }), token)
		slices.SortFunc(m.Tokens, func(a, b api.Token) int { return a.Number - b.Number })
	})
	disk := overlaid(v.tape.disk, 0, copies(t, m, seq+1))
	expect(t, name, v.Note(token), api.OK)
	v.tape.holds(name, disk, v.tape.committed(16384)...)
	stands(t, name, v.Ring, m, seq+1, true, false)
}

// P10.14: tokens in any order of their numbers, in the place of others; a locked ring too.
func TestNote(t *testing.T) {
	v := newVolume(t, 512, format())
	v.add("b", 30, opts())
	v.Lock()
	for i, number := range []int{5, 0, 31, 7, 5, 0, 31} {
		notes(t, fmt.Sprint("token ", number), v, api.Token{Number: number, Kind: fmt.Sprint("kind ", i), Note: "é\x00", Slots: [][]int{nil, {0}, {30}, {0, 30}}[i%4]})
	}
	for i, number := range []int{7, 0, 31, 5} {
		v.tape.asked = nil
		seq := v.Seq()
		m := changed(v.Meta(), func(m *api.Meta) {
			m.Tokens = slices.DeleteFunc(m.Tokens, func(x api.Token) bool { return x.Number == number })
		})
		disk := overlaid(v.tape.disk, 0, copies(t, m, seq+1))
		expect(t, "Unnote", v.Unnote(number), api.OK)
		v.tape.holds("Unnote", disk, v.tape.committed(16384)...)
		stands(t, "Unnote", v.Ring, m, seq+1, true, false)
		expect(t, "again", v.Unnote(number), api.ErrMissing)
		if len(m.Tokens) != 3-i {
			t.Errorf("%d tokens", len(m.Tokens))
		}
	}
}

// P10.14: thirty-two tokens are all that there can be.
func TestNoteAll(t *testing.T) {
	v := newVolume(t, 512, format())
	v.Lock()
	for i := range 32 {
		notes(t, "each", v, api.Token{Number: i * 5 % 32, Kind: "k"})
	}
	notes(t, "in the place of one", v, api.Token{Number: 12, Kind: "another"})
}

// P10.14: each refusal of Note and Unnote, in their order.
func TestNoteRefused(t *testing.T) {
	type noting struct {
		v     *volume
		token api.Token
	}
	all := []wrong[noting]{
		{"stuck", 0, api.ErrStuck, func(a *noting) { hitch(t, a.v) }},
		{"no such keyslot", 2, api.ErrSlot, func(a *noting) { a.token.Slots = []int{0, 1} }},
		{"no such keyslot, first", 2, api.ErrSlot, func(a *noting) { a.token.Slots = []int{1, 5} }},
		{"the last number", 3, api.ErrHeadField, func(a *noting) { a.v.rewrite(a.v.Meta(), 1<<62) }},
		{"no room", 4, api.ErrHeadText, func(a *noting) { a.v.fill(0) }},
	}
	for name, do := range map[string]func(t *api.Token){
		"number -1":       func(t *api.Token) { t.Number = -1 },
		"number 32":       func(t *api.Token) { t.Number = 32 },
		"no kind":         func(t *api.Token) { t.Kind = "" },
		"a long kind":     func(t *api.Token) { t.Kind = strings.Repeat("k", 65) },
		"a kind's bytes":  func(t *api.Token) { t.Kind = "\xff" },
		"a long note":     func(t *api.Token) { t.Note = strings.Repeat("k", 4097) },
		"a note's bytes":  func(t *api.Token) { t.Note = "\x80" },
		"keyslot -1":      func(t *api.Token) { t.Slots = []int{-1, 0} },
		"keyslot 32":      func(t *api.Token) { t.Slots = []int{0, 32} },
		"falling":         func(t *api.Token) { t.Slots = []int{5, 0} },
		"one twice":       func(t *api.Token) { t.Slots = []int{0, 0} },
		"falling to none": func(t *api.Token) { t.Slots = []int{5, 3} },
	} {
		all = append(all, wrong[noting]{name, 1, api.ErrArg, func(a *noting) { do(&a.token) }})
	}
	pairs(all, func(name string, want api.Errno, do ...func(a *noting)) {
		v := newVolume(t, 512, format())
		v.add("b", 5, opts())
		a := noting{v, api.Token{Number: 4, Kind: "k", Slots: []int{0, 5}, Note: "n"}}
		for _, f := range do {
			f(&a)
		}
		v.tape.asked = nil
		disk, m, seq, stuck := slices.Clone(v.tape.disk), v.Meta(), v.Seq(), v.Stuck()
		expect(t, name, v.Note(a.token), want)
		v.tape.holds(name, disk)
		stands(t, name, v.Ring, m, seq, false, stuck)
	})
	v := newVolume(t, 512, format())
	expect(t, "Note", v.Note(api.Token{Number: 4, Kind: "k"}), api.OK)
	v.rewrite(v.Meta(), 1<<62)
	for number, want := range map[int]api.Errno{math.MinInt: 2, -1: 2, 32: 2, math.MaxInt: 2, 0: 7, 3: 7, 31: 7, 4: api.ErrHeadField} {
		expect(t, fmt.Sprint("Unnote ", number), v.Unnote(number), want)
	}
	hitch(t, v)
	for _, number := range []int{-1, 0, 4} {
		expect(t, "Unnote of a stuck ring", v.Unnote(number), api.ErrStuck)
	}
}

// P10.14: a note that fills the text's room to the last byte.
func TestNoteText(t *testing.T) {
	v := newVolume(t, 512, format())
	v.fill(len(`"0":{"kind":"k","slots":[],"note":"nn"},`))
	locked := v.load()
	expect(t, "a byte too long", locked.Note(api.Token{Kind: "k", Note: "nnn"}), api.ErrHeadText)
	expect(t, "just so long", locked.Note(api.Token{Kind: "k", Note: "nn"}), api.OK)
	expect(t, "longer, in its place", locked.Note(api.Token{Kind: "k", Note: "nnn"}), api.ErrHeadText)
	expect(t, "shorter", locked.Note(api.Token{Kind: "k", Note: ""}), api.OK)
	stands(t, "in its place", locked, changed(v.Meta(), func(m *api.Meta) { m.Tokens = slices.Insert(m.Tokens, 0, api.Token{Kind: "k"}) }), v.Seq()+2, true, false)
}
