package ledger_test

import (
	"fmt"
	"math"
	"math/rand"
	"reflect"
	"slices"
	"strings"
	"testing"

	"coffer/api"
	"coffer/ledger"
)

// breach is one thing that is put out of its bounds.
type breach struct {
	why    api.Errno
	what   string
	change func(m *api.Meta)
}

// breaches tells, of metadata with a rotation in the midst of a step, what is refused, and how.
func breaches() []breach {
	slot := func(what string, change func(s *api.Slot)) breach {
		return breach{92, "slot " + what, func(m *api.Meta) { change(&m.Slots[1]) }}
	}
	epoch := func(what string, change func(e *api.Epoch)) breach {
		return breach{93, "epoch " + what, func(m *api.Meta) { change(&m.Epochs[1]) }}
	}
	turn := func(what string, change func(r *api.Rotation)) breach {
		return breach{94, "rotation " + what, func(m *api.Meta) { change(&m.Rotation) }}
	}
	area := func(what string, change func(m *api.Meta)) breach { return breach{96, "area " + what, change} }
	token := func(what string, change func(t *api.Token)) breach {
		return breach{97, "token " + what, func(m *api.Meta) { change(&m.Tokens[0]) }}
	}
	return []breach{
		{90, "shape Unit", func(m *api.Meta) { m.Shape.Unit = 1000 }},
		{90, "shape Count", func(m *api.Meta) { m.Shape.Count = 192 }},
		{90, "shape Head", func(m *api.Meta) { m.Shape.Head = 16383 }},
		{90, "shape Keys", func(m *api.Meta) { m.Shape.Keys = 65537 }},
		{91, "digest Turns 0", func(m *api.Meta) { m.Digest.Turns = 0 }},
		{91, "digest Turns beyond", func(m *api.Meta) { m.Digest.Turns = 1<<20 + 1 }},
		{91, "digest Salt short", func(m *api.Meta) { m.Digest.Salt = filled(31, 1) }},
		{91, "digest Salt long", func(m *api.Meta) { m.Digest.Salt = filled(33, 1) }},
		{91, "digest Digest short", func(m *api.Meta) { m.Digest.Digest = filled(31, 1) }},
		{91, "digest Digest long", func(m *api.Meta) { m.Digest.Digest = filled(33, 1) }},
		{92, "no slot", func(m *api.Meta) { m.Slots = nil }},
		{92, "33 slots", func(m *api.Meta) {
			m.Slots = slices.Repeat(m.Slots[:1], 33)
			for i := range m.Slots {
				m.Slots[i].Number = i
			}
		}},
		{92, "33 slots, of which 32 rise", func(m *api.Meta) {
			m.Slots = slices.Repeat(m.Slots[:1], 33)
			for i := range m.Slots {
				m.Slots[i].Number = i % 32
			}
		}},
		{92, "slots that fall", func(m *api.Meta) { slices.Reverse(m.Slots) }},
		{92, "the first slot alone", func(m *api.Meta) { m.Slots[0].Hash = 0 }},
		slot("Number below 0", func(s *api.Slot) { s.Number = -1 }),
		slot("Number 32", func(s *api.Slot) { s.Number = 32 }),
		slot("Number that is there", func(s *api.Slot) { s.Number = 0 }),
		slot("Priority below 0", func(s *api.Slot) { s.Priority = -1 }),
		slot("Priority 3", func(s *api.Slot) { s.Priority = 3 }),
		slot("Hash 224", func(s *api.Slot) { s.Hash = 224 }),
		slot("Hash 384", func(s *api.Slot) { s.Hash = 384 }),
		slot("Hash 0", func(s *api.Slot) { s.Hash = 0 }),
		slot("Turns 0", func(s *api.Slot) { s.Turns = 0 }),
		slot("Turns beyond", func(s *api.Slot) { s.Turns = 1<<20 + 1 }),
		slot("Salt short", func(s *api.Slot) { s.Salt = filled(31, 1) }),
		slot("Salt long", func(s *api.Slot) { s.Salt = filled(33, 1) }),
		slot("Cipher null", func(s *api.Slot) { s.Cipher = "null" }),
		slot("Cipher empty", func(s *api.Slot) { s.Cipher = "" }),
		slot("Cipher in capitals", func(s *api.Slot) { s.Cipher = "AES128-ecb" }),
		slot("Stripes 0", func(s *api.Slot) { s.Stripes = 0 }),
		slot("Stripes beyond", func(s *api.Slot) { s.Stripes = 4001 }),
		{93, "no epoch", func(m *api.Meta) { m.Epochs = nil }},
		{93, "one epoch, though it is On", func(m *api.Meta) { m.Epochs = m.Epochs[:1] }},
		{93, "three epochs", func(m *api.Meta) { m.Epochs = append(m.Epochs, m.Epochs[1]); m.Epochs[2].Number = 10 }},
		{93, "two epochs, though it is not On", func(m *api.Meta) { m.Rotation.On = false }},
		{93, "epochs that fall", func(m *api.Meta) { slices.Reverse(m.Epochs) }},
		{93, "the first epoch alone", func(m *api.Meta) { m.Epochs[0].Nonce = "" }},
		epoch("Number beyond", func(e *api.Epoch) { e.Number = 1<<62 + 1 }),
		epoch("Number that is there", func(e *api.Epoch) { e.Number = 5 }),
		epoch("Cipher", func(e *api.Epoch) { e.Cipher = "aes256-hctr2-plain63" }),
		epoch("Cipher of a shorter key", func(e *api.Epoch) { e.Cipher = "aes128-hctr2-plain64" }),
		epoch("Nonce short", func(e *api.Epoch) { e.Nonce = filled(31, 1) }),
		epoch("Nonce long", func(e *api.Epoch) { e.Nonce = filled(33, 1) }),
		epoch("Check short", func(e *api.Epoch) { e.Check = filled(31, 1) }),
		epoch("Check long", func(e *api.Epoch) { e.Check = filled(33, 1) }),
		epoch("Sealed short", func(e *api.Epoch) { e.Sealed = filled(39, 1) }),
		epoch("Sealed long", func(e *api.Epoch) { e.Sealed = filled(41, 1) }),
		epoch("Sealed as the key", func(e *api.Epoch) { e.Sealed = filled(32, 1) }),
		epoch("null, though Sealed", func(e *api.Epoch) { e.Cipher = "null"; e.Sealed = filled(8, 1) }),
		turn("From", func(r *api.Rotation) { r.From = 6 }),
		turn("To", func(r *api.Rotation) { r.To = 8 }),
		turn("From and To in turn", func(r *api.Rotation) { r.From, r.To = r.To, r.From }),
		turn("Mode 0", func(r *api.Rotation) { r.Mode = 0 }),
		turn("Mode 3", func(r *api.Rotation) { r.Mode = 3 }),
		turn("Hot 0", func(r *api.Rotation) { r.Hot = 0; r.Count = 0 }),
		turn("Hot beyond", func(r *api.Rotation) { r.Hot = 4097; r.Count = 168 }),
		turn("Done beyond", func(r *api.Rotation) { r.Done = 209 }),
		turn("Done beyond, not Active", func(r *api.Rotation) { r.Done, r.Active, r.Count, r.Sum = 209, false, 0, "" }),
		turn("Active, Done N", func(r *api.Rotation) { r.Done = 208; r.Count = 0 }),
		turn("Active, Count low", func(r *api.Rotation) { r.Count = 49 }),
		turn("Active, Count high", func(r *api.Rotation) { r.Count = 51 }),
		turn("Active, Count as Hot, though less is left", func(r *api.Rotation) { r.Done = 200 }),
		turn("Active, Count as what is left, though Hot is less", func(r *api.Rotation) { r.Count = 168 }),
		turn("Active, Sum short", func(r *api.Rotation) { r.Sum = filled(31, 1) }),
		turn("Active, Sum long", func(r *api.Rotation) { r.Sum = filled(33, 1) }),
		turn("Active, no Sum", func(r *api.Rotation) { r.Sum = "" }),
		turn("not Active, with Count", func(r *api.Rotation) { r.Active = false; r.Sum = "" }),
		turn("not Active, with Sum", func(r *api.Rotation) { r.Active = false; r.Count = 0 }),
		{95, "no segment", func(m *api.Meta) { m.Segments = nil }},
		{95, "one segment less", func(m *api.Meta) { m.Segments = m.Segments[:1] }},
		{95, "one segment more", func(m *api.Meta) { m.Segments = append(m.Segments, api.Segment{Start: 208}) }},
		{95, "segments in another order", func(m *api.Meta) { slices.Reverse(m.Segments) }},
		{95, "segment Start", func(m *api.Meta) { m.Segments[1].Start++ }},
		{95, "segment Count", func(m *api.Meta) { m.Segments[1].Count-- }},
		{95, "segment Epoch", func(m *api.Meta) { m.Segments[1].Epoch = 9 }},
		{95, "Done, but not the segments", func(m *api.Meta) { m.Rotation.Done++ }},
		{95, "Back, but not the segments", func(m *api.Meta) { m.Rotation.Back = true }},
		area("Offset of a slot", func(m *api.Meta) { m.Slots[0].Area.Offset++ }),
		area("Offset of a slot by sectors", func(m *api.Meta) { m.Slots[0].Area.Offset += 512 }),
		area("Size of a slot low", func(m *api.Meta) { m.Slots[1].Area.Size = 4096 }),
		area("Size of a slot high", func(m *api.Meta) { m.Slots[0].Area.Size = 8192 }),
		area("Size of a slot 0", func(m *api.Meta) { m.Slots[0].Area.Size = 0 }),
		area("Stripes, but not the area", func(m *api.Meta) { m.Slots[0].Stripes = 129 }),
		area("of a slot ahead", func(m *api.Meta) { m.Slots[0].Area.Offset = 28672 }),
		area("of a slot far ahead", func(m *api.Meta) { m.Slots[0].Area.Offset = -32768 }),
		area("of a slot at the very beginning", func(m *api.Meta) { m.Slots[0].Area.Offset = math.MinInt64 }),
		area("of a slot behind", func(m *api.Meta) { m.Slots[1].Area.Offset = 98304 }),
		area("of a slot in part behind", func(m *api.Meta) { m.Slots[1].Area.Offset = 94208 }),
		area("of a slot at the very end", func(m *api.Meta) { m.Slots[1].Area.Offset = math.MaxInt64 - 4095 }),
		area("of two slots alike", func(m *api.Meta) { m.Slots[1].Stripes = 1; m.Slots[1].Area = m.Slots[0].Area }),
		area("of two slots in part alike", func(m *api.Meta) { m.Slots[0].Area.Offset = 94208 }),
		area("of a slot and the rotation alike, first", func(m *api.Meta) { m.Slots[0].Area.Offset = 40960 }),
		area("of a slot and the rotation alike, last", func(m *api.Meta) { m.Slots[0].Area.Offset = 65536 }),
		area("of a slot in the midst of the rotation's", func(m *api.Meta) { m.Slots[0].Area.Offset = 49152 }),
		area("of the rotation over a slot's end", func(m *api.Meta) { m.Rotation.Area.Offset = 32768 }),
		area("of the rotation over a slot's beginning", func(m *api.Meta) { m.Rotation.Area.Offset = 65536 }),
		area("of the rotation too small", func(m *api.Meta) { m.Rotation.Area.Size = 24576 }),
		area("of the rotation of no step", func(m *api.Meta) { m.Rotation.Area.Size = 28673 }),
		area("of the rotation by sectors", func(m *api.Meta) { m.Rotation.Area.Size = 29184 }),
		area("of the rotation from no step on", func(m *api.Meta) { m.Rotation.Area.Offset = 40961 }),
		area("of the rotation ahead", func(m *api.Meta) { m.Rotation.Area.Offset = 0 }),
		area("of the rotation below 0", func(m *api.Meta) { m.Rotation.Area.Size = -4096 }),
		area("of the rotation as great as can be", func(m *api.Meta) { m.Rotation.Area.Size = math.MaxInt64 - 4095 }),
		area("of the rotation from as far as can be", func(m *api.Meta) { m.Rotation.Area.Offset = math.MaxInt64 - 4095 }),
		area("of the rotation behind", func(m *api.Meta) { m.Rotation.Area.Offset = 98304 }),
		{97, "33 tokens", func(m *api.Meta) {
			m.Tokens = nil
			for i := range 33 {
				m.Tokens = append(m.Tokens, api.Token{Number: i, Kind: "k"})
			}
		}},
		{97, "tokens that fall", func(m *api.Meta) { slices.Reverse(m.Tokens) }},
		{97, "tokens of one number", func(m *api.Meta) { m.Tokens[1].Number = 1 }},
		{97, "the last token alone", func(m *api.Meta) { m.Tokens[1].Kind = "" }},
		token("Number below 0", func(t *api.Token) { t.Number = -1 }),
		{97, "token Number 32", func(m *api.Meta) { m.Tokens[1].Number = 32 }},
		token("Kind empty", func(t *api.Token) { t.Kind = "" }),
		token("Kind long", func(t *api.Token) { t.Kind = strings.Repeat("k", 65) }),
		token("Kind no UTF-8", func(t *api.Token) { t.Kind = "\xff" }),
		token("Note long", func(t *api.Token) { t.Note = strings.Repeat("n", 4097) }),
		token("Note no UTF-8", func(t *api.Token) { t.Note = "\xed\xa0\x80" }),
		token("Slots: none such", func(t *api.Token) { t.Slots = []int{0, 2} }),
		token("Slots: below 0", func(t *api.Token) { t.Slots = []int{-1} }),
		token("Slots: 32", func(t *api.Token) { t.Slots = []int{32} }),
		token("Slots: twice", func(t *api.Token) { t.Slots = []int{3, 3} }),
		token("Slots: falling", func(t *api.Token) { t.Slots = []int{3, 0} }),
	}
}

// P9.4, P9.5, P9.9: each thing that is put out of its bounds is refused, with its error.
func TestBreaches(t *testing.T) {
	if e := ledger.Check(stepping(false, 1, 40)); e != api.OK {
		t.Fatalf("what is to be changed may not be: error %d", e)
	}
	for _, b := range breaches() {
		m := stepping(false, 1, 40)
		b.change(&m)
		if e := ledger.Check(m); e != b.why {
			t.Errorf("%s: error %d, not %d", b.what, e, b.why)
		}
		if s, e := ledger.Print(m); s != "" || e != b.why {
			t.Errorf("%s: Print: %q, error %d, not %d", b.what, s, e, b.why)
		}
		checkAs(t, b.what, m)
	}
}

// P9.4: of two things the one that is told first counts.
func TestBreachesInOrder(t *testing.T) {
	all := breaches()
	for _, a := range all {
		for _, b := range all {
			if a.why == b.why {
				continue
			}
			m := stepping(false, 1, 40)
			if undone := changed(&m, a.change, b.change); undone {
				continue
			}
			checkAs(t, a.what+" and "+b.what, m)
		}
	}
	simple := []func(m *api.Meta){
		func(m *api.Meta) { m.Shape.Unit = 0 },
		func(m *api.Meta) { m.Digest.Turns = 0 },
		func(m *api.Meta) { m.Slots[0].Turns = 0 },
		func(m *api.Meta) { m.Epochs[0].Nonce = "" },
		func(m *api.Meta) { m.Rotation.Sum = "" },
		func(m *api.Meta) { m.Segments[0].Epoch++ },
		func(m *api.Meta) { m.Slots[0].Area.Offset++ },
		func(m *api.Meta) { m.Tokens[0].Kind = "" },
	}
	for bits := range 1 << 8 {
		m := stepping(true, 2, 40)
		want := api.OK
		for i := 7; i >= 0; i-- {
			if bits>>i&1 != 0 {
				simple[i](&m)
				want = api.Errno(90 + i)
			}
		}
		if e := ledger.Check(m); e != want {
			t.Errorf("changes %08b: error %d, not %d", bits, e, want)
		}
	}
}

// changed makes two changes; it tells whether the second one could not be made behind the first.
func changed(m *api.Meta, changes ...func(m *api.Meta)) (undone bool) {
	defer func() { undone = recover() != nil }()
	for _, change := range changes {
		change(m)
	}
	return false
}

// P9.4: without a rotation everything in it is zero.
func TestRotationOff(t *testing.T) {
	fields := reflect.TypeFor[api.Rotation]()
	for i := range fields.NumField() {
		m := still()
		v := reflect.ValueOf(&m.Rotation).Elem().Field(i)
		want := api.ErrLedgerRotation
		switch v.Kind() {
		case reflect.Bool:
			v.SetBool(true)
			if fields.Field(i).Name == "On" {
				want = api.ErrLedgerEpoch
			}
		case reflect.Int:
			v.SetInt(1)
		case reflect.Uint64:
			v.SetUint(1)
		case reflect.String:
			v.SetString("x")
		default:
			v.Field(1).SetInt(4096)
		}
		if e := ledger.Check(m); e != want {
			t.Errorf("%s: error %d, not %d", fields.Field(i).Name, e, want)
		}
	}
	m := still()
	m.Rotation.Area.Offset = -1
	if e := ledger.Check(m); e != api.ErrLedgerRotation {
		t.Errorf("Area.Offset: error %d", e)
	}
}

// P9.4: what is at its bounds may be.
func TestBoundsMay(t *testing.T) {
	for i, change := range []func(m *api.Meta){
		func(m *api.Meta) { m.Digest.Turns = 1 },
		func(m *api.Meta) { m.Digest.Turns = 1 << 20 },
		func(m *api.Meta) { m.Slots[1].Number = 31; m.Tokens[0].Slots = []int{31} },
		func(m *api.Meta) { m.Slots[1].Number = 1; m.Tokens[0].Slots = nil },
		func(m *api.Meta) { m.Slots[0].Priority = 0 },
		func(m *api.Meta) { m.Slots[0].Turns = 1 },
		func(m *api.Meta) { m.Slots[0].Stripes = 1 },
		func(m *api.Meta) { m.Slots[0].Stripes = 128 },
		func(m *api.Meta) {
			m.Epochs[0].Number, m.Epochs[1].Number, m.Rotation.From, m.Rotation.To = 0, 1<<62, 0, 1<<62
			m.Segments = modelSegments(*m)
		},
		func(m *api.Meta) { m.Epochs[1].Cipher, m.Epochs[1].Sealed = "null", "" },
		func(m *api.Meta) { m.Rotation.Hot, m.Rotation.Count, m.Rotation.Area.Size = 1, 1, 4096 },
		func(m *api.Meta) {
			m.Rotation.Mode, m.Rotation.Hot, m.Rotation.Count, m.Rotation.Area = 2, 1408, 168, api.Area{Offset: 36864, Size: 45056}
		},
		func(m *api.Meta) { m.Rotation.Area = api.Area{Offset: 36864, Size: 53248} },
		func(m *api.Meta) { m.Rotation.Area = api.Area{Offset: 61440, Size: 28672} },
		func(m *api.Meta) { m.Slots[1].Area.Offset = 69632 },
		func(m *api.Meta) { m.Tokens[0].Number, m.Tokens[1].Number = 0, 31 },
		func(m *api.Meta) { m.Tokens[0].Kind = strings.Repeat("é", 32) },
		func(m *api.Meta) { m.Tokens[0].Note = strings.Repeat("\x1f", 4096) },
		func(m *api.Meta) { m.Label, m.Subsystem, m.UUID, m.HeadSalt = "\xff", "\x00", "u", "s" },
	} {
		m := stepping(false, 1, 40)
		change(&m)
		if e := ledger.Check(m); e != api.OK {
			t.Errorf("change %d: error %d", i, e)
		}
		checkAs(t, fmt.Sprint("change ", i), m)
	}
	m := small()
	m.Shape.Keys, m.Segments[0].Count = 4096, 64
	if e := ledger.Check(m); e != api.OK {
		t.Errorf("one keyslot in all of the keyslots area: error %d", e)
	}
	m = fullest()
	if e := ledger.Check(m); e != api.OK {
		t.Errorf("as much as may be: error %d", e)
	}
	checkAs(t, "as much as may be", m)
}

// fullest gives metadata with as much as may be in them.
func fullest() api.Meta {
	m := stepping(false, 1, 40)
	m.Shape = api.Shape{Unit: 4096, Count: 1 << 32, Head: 1 << 22, Keys: 1 << 27}
	m.Slots, m.Tokens = nil, nil
	every := make([]int, 32)
	for i := range every {
		every[i] = i
	}
	for i := range 32 {
		m.Slots = append(m.Slots, api.Slot{Number: i, Priority: 2, Hash: 512, Turns: 1 << 20, Salt: filled(32, i), Cipher: "aes256-xts-essiv:sha256", Stripes: 4000, Area: api.Area{Offset: 1<<23 + int64(31-i)*131072, Size: 131072}})
		m.Tokens = append(m.Tokens, api.Token{Number: i, Kind: strings.Repeat("\x01", 64), Slots: slices.Clone(every), Note: strings.Repeat("\x02", 4096)})
	}
	m.Rotation.Area = api.Area{Offset: 1<<23 + 32*131072, Size: 1<<27 - 32*131072}
	m.Rotation.Hot, m.Rotation.Count, m.Rotation.Done = 4096, 4096, 1<<31
	m.Segments = modelSegments(m)
	return m
}

// P9.4: all of layer 3's names, and the keys that they have.
func TestCiphers(t *testing.T) {
	names := []string{"null", "", "aes", "aes128-", "aes512-ecb", "null ", "aes128-ecb\x00"}
	for _, size := range []string{"aes128-", "aes192-", "aes256-"} {
		for _, mode := range strings.Fields("ecb cbc-null cbc-plain cbc-plain64 cbc-plain64be cbc-benbi cbc-essiv:sha256 cbc-eboiv cbc-elephant cbc-tcw xts-plain xts-plain64 xts-plain64be xts-essiv:sha256 lrw-benbi hctr2-plain hctr2-plain64 cbc xts-benbi") {
			names = append(names, size+mode)
		}
	}
	for _, name := range names {
		m := still()
		m.Slots[0].Cipher = name
		checkAs(t, "slot of "+name, m)
		for long := range 90 {
			m := still()
			m.Epochs[0].Cipher, m.Epochs[0].Sealed = name, filled(long, 1)
			checkAs(t, fmt.Sprint("epoch of ", name, ", sealed ", long), m)
		}
	}
}

// P9.4: TokenMay, at and beyond each bound.
func TestTokenMay(t *testing.T) {
	every := make([]int, 32)
	for i := range every {
		every[i] = i
	}
	kinds := []string{"", "k", strings.Repeat("k", 64), strings.Repeat("k", 65), strings.Repeat("é", 32), strings.Repeat("é", 33), "\x00", "\xc3", "a\xc0\x80", "\xed\xbf\xbf", "\xf4\x90\x80\x80", "\xf4\x8f\xbf\xbf", "\ufffd"}
	notes := []string{"", strings.Repeat("n", 4096), strings.Repeat("n", 4097), strings.Repeat("n", 4095) + "é", "\xff"}
	slots := [][]int{nil, {}, {0}, {31}, {32}, {-1}, {0, 31}, {0, 0}, {1, 0}, {5, 6, 7}, {5, 7, 6}, {0, 1, 32}, every, append(slices.Clone(every), 32), append(slices.Clone(every), 31), {math.MinInt}, {math.MaxInt}, {0, math.MaxInt}}
	for _, number := range []int{math.MinInt, -1, 0, 1, 31, 32, math.MaxInt} {
		for _, kind := range kinds {
			for _, note := range notes {
				for _, list := range slots {
					tok := api.Token{Number: number, Kind: kind, Slots: list, Note: note}
					if got := ledger.TokenMay(tok); got != modelToken(tok) {
						t.Fatalf("TokenMay(%d, %q, %v, %.9q): %v", number, kind, list, note, got)
					}
				}
			}
		}
	}
	if ledger.TokenMay(api.Token{}) || !ledger.TokenMay(api.Token{Kind: "k"}) {
		t.Error("the zero token may be, or one with a kind may not")
	}
}

// leaf is a number, a text or a flag in metadata.
type leaf struct {
	path string
	v    reflect.Value
}

// leaves gives all of them but for what is layer 8's.
func leaves(m *api.Meta) []leaf {
	var out []leaf
	var walk func(path string, v reflect.Value)
	walk = func(path string, v reflect.Value) {
		switch v.Kind() {
		case reflect.Struct:
			for i := range v.NumField() {
				walk(path+"."+v.Type().Field(i).Name, v.Field(i))
			}
		case reflect.Slice:
			for i := range v.Len() {
				walk(fmt.Sprint(path, "[", i, "]"), v.Index(i))
			}
		default:
			out = append(out, leaf{path, v})
		}
	}
	walk("", reflect.ValueOf(m).Elem())
	return out[4:]
}

// put gives a leaf a value that is an edge of something; the i-th of those of its kind.
func put(v reflect.Value, i int) (more bool) {
	numbers := []int64{0, 1, 2, 3, 4, 5, 6, 8, 9, 10, 30, 31, 32, 33, 40, 49, 50, 51, 167, 168, 169, 207, 208, 209, 224, 255, 256, 257, 384, 511, 512, 513, 1024, 2048, 3999, 4000, 4001, 4095, 4096, 4097, 8192, 12288, 16384, 28672, 32768, 36864, 40960, 45056, 65536, 69632, 86016, 90112, 94208, 98304, 1<<20 - 1, 1 << 20, 1<<20 + 1, 1 << 22, 1 << 23, 1 << 27, 1 << 32, 1<<32 + 1, 1 << 62, 1<<62 + 1, math.MaxInt64 - 4095, math.MaxInt64, -1, -512, -4096, math.MinInt64, math.MinInt64 + 4096}
	texts := []string{"", "x", "null", "aes128-ecb", "aes256-xts-plain64", "aes256-ecb", "\xff", "é", filled(24, 9), filled(31, 1), filled(32, 1), filled(33, 1), filled(40, 2), filled(72, 2), strings.Repeat("k", 64), strings.Repeat("k", 65), strings.Repeat("n", 4096), strings.Repeat("n", 4097)}
	switch v.Kind() {
	case reflect.Bool:
		v.SetBool(i%2 == 0)
		return i < 1
	case reflect.String:
		v.SetString(texts[i%len(texts)])
		return i < len(texts)-1
	case reflect.Uint64:
		v.SetUint(uint64(numbers[i%len(numbers)]))
	default:
		v.SetInt(numbers[i%len(numbers)])
	}
	return i < len(numbers)-1
}

// P9.4, P9.9: each thing by itself at each edge, against the model.
func TestEachThing(t *testing.T) {
	t.Parallel()
	all := those()
	for _, k := range []int{0, 2, 5, 8, 11} {
		base := all[k]
		for j := range leaves(&base) {
			for i, more := 0, true; more; i++ {
				m := tidy(base)
				l := leaves(&m)[j]
				more = put(l.v, i)
				checkAs(t, fmt.Sprintf("metadata %d: %s = %.40v", k, l.path, l.v), m)
			}
		}
	}
}

// P9.4: several things at once, against the model.
func TestSeveralThings(t *testing.T) {
	t.Parallel()
	r := rand.New(rand.NewSource(9))
	met := map[api.Errno]int{}
	all := those()
	for range 12000 {
		m := tidy(all[r.Intn(len(all))])
		what := ""
		for range 1 + r.Intn(4) {
			ls := leaves(&m)
			l := ls[r.Intn(len(ls))]
			put(l.v, r.Intn(100))
			what += fmt.Sprintf("%s = %.40v ", l.path, l.v)
		}
		if r.Intn(3) == 0 {
			m.Segments = ledger.Segments(m)
		}
		switch r.Intn(12) {
		case 0:
			m.Slots = m.Slots[:r.Intn(len(m.Slots)+1)]
		case 1:
			m.Epochs = m.Epochs[:r.Intn(len(m.Epochs)+1)]
		case 2:
			m.Tokens = append(m.Tokens, m.Tokens...)
		}
		checkAs(t, what, m)
		met[ledger.Check(m)]++
	}
	for e := api.ErrLedgerShape; e <= api.ErrLedgerToken; e++ {
		if met[e] < 30 {
			t.Errorf("error %d came %d times", e, met[e])
		}
	}
	if met[api.OK] < 300 {
		t.Errorf("no error came %d times", met[api.OK])
	}
}

// P9.8: a rotation that is on may stand anywhere, between two steps and in the midst of one.
func TestAllSteps(t *testing.T) {
	for _, base := range those() {
		if !base.Rotation.On {
			continue
		}
		for _, hot := range []uint64{1, 7, 50} {
			for done := uint64(0); done <= 208; done++ {
				m := tidy(base)
				m.Rotation.Hot, m.Rotation.Done, m.Rotation.Active, m.Rotation.Count, m.Rotation.Sum = hot, done, false, 0, ""
				m.Segments = ledger.Segments(m)
				if e := ledger.Check(m); e != api.OK {
					t.Fatalf("Done %d: error %d", done, e)
				}
				next := uint64(0)
				for _, s := range m.Segments {
					if s.Start != next || s.Count == 0 {
						t.Errorf("Done %d: %v", done, m.Segments)
					}
					next += s.Count
				}
				if next != 208 {
					t.Errorf("Done %d: %d sectors", done, next)
				}
				m.Rotation.Active, m.Rotation.Count, m.Rotation.Sum = true, min(hot, 208-done), strings.Repeat("\x00", 32)
				want := api.OK
				if done == 208 {
					want = api.ErrLedgerRotation
				}
				if e := ledger.Check(m); e != want {
					t.Fatalf("Active, Done %d: error %d, not %d", done, e, want)
				}
			}
		}
	}
}
