package probe_test

import (
	"fmt"
	"math"
	"math/rand"
	"reflect"
	"slices"
	"strings"
	"testing"

	"coffer/api"
	"coffer/probe"
)

// tells holds Lines against the second reckoning.
func tells(t *testing.T, name string, s api.Seen) []string {
	t.Helper()
	got := probe.Lines(s)
	if want := modelLines(s); !slices.Equal(got, want) {
		t.Errorf("%s:\n%s\nnot\n%s", name, strings.Join(got, "\n"), strings.Join(want, "\n"))
	}
	return got
}

// seen is one of everything.
func seen() api.Seen {
	m := turning(512, 9, true, 2, 3, 4)
	m.Rotation.Active, m.Rotation.Count, m.Rotation.Sum = true, 3, filled(32, 1)
	o := still(512, 9)
	o.Label = "\"old\""
	return api.Seen{
		Unit: 512, Count: 169,
		First:  api.SeenCopy{Seq: 8, Head: 16384, Long: 1000},
		Second: api.SeenCopy{Seq: 7, Head: 16384, Long: 900, Text: api.ErrLedgerText, Place: 12},
		Takes:  1, Mends: true, Meta: m, Both: true, Other: o, Fits: true,
		Areas: []api.SeenArea{{Slot: 1, Zero: true, Judge: api.ErrSick}, {Slot: 4, Judge: api.ErrSick}, {Slot: 30}, {Slot: -1, Judge: api.ErrArg}},
		Dirty: 5, Moved: 2,
	}
}

// P15.5: the whole of it, line by line.
func TestLines(t *testing.T) {
	want := `device 512 169
first good seq 8 head 16384 text 1000
second good seq 7 head 16384 text 900 error 98 at 12
takes first mends
other label
other segments
other rotation
other + epoch 8
name "a label" "sub" "u-u-i-d"
shape 512 169 16384 49152
digest turns 1000
slot 1 priority 1 hash 256 turns 7 cipher "aes256-xts-plain64" stripes 2 at 36864 size 4096
slot 4 priority 2 hash 512 turns 8 cipher "aes128-ecb" stripes 200 at 73728 size 8192
slot 30 priority 1 hash 256 turns 9 cipher "aes128-ecb" stripes 1 at 40960 size 4096
asked 4,1,30
epoch 5 cipher "null"
epoch 8 cipher "null"
segment 0 5 epoch 5
segment 5 4 epoch 8
rotation 5 to 8 down digests hot 3 done 4 at 49152 size 16384 active 3
token 2 kind "k" slots 1,4 note 6
token 31 kind "l" slots none note 0
area 1 zeros
area 4 odd 62
area 30 random
area journal odd 2
dirty 5
step right moved 2`
	if got := strings.Join(tells(t, "all", seen()), "\n"); got != want {
		t.Errorf("%s", got)
	}
}

// P15.5: nothing at all.
func TestLinesOfNothing(t *testing.T) {
	want := []string{"device 0 0", "first good seq 0 head 0 text 0", "second good seq 0 head 0 text 0", "takes none"}
	if got := tells(t, "nothing", api.Seen{}); !slices.Equal(got, want) {
		t.Errorf("%q", got)
	}
}

// P15.5: each of its conditions, turned about.
func TestLinesWhen(t *testing.T) {
	for _, c := range []struct {
		name string
		do   func(s *api.Seen)
		line string
		not  string // the beginning of a line that is not there
	}{
		{"first bad", func(s *api.Seen) { s.First.Why = api.ErrHeadSum }, "first error 84", "first good"},
		{"second bad", func(s *api.Seen) { s.Second.Why = -5 }, "second error -5", "second good"},
		{"takes second", func(s *api.Seen) { s.Takes = 2 }, "takes second mends", "takes first"},
		{"no mending", func(s *api.Seen) { s.Mends = false }, "takes first", "takes first mends"},
		{"takes 0", func(s *api.Seen) { s.Takes, s.Mends = 0, false }, "takes none", "name"},
		{"takes 3", func(s *api.Seen) { s.Takes = 3 }, "takes none mends", "dirty"},
		{"takes -1", func(s *api.Seen) { s.Takes = -1 }, "takes none mends", "area"},
		{"not both", func(s *api.Seen) { s.Both = false }, "dirty 5", "other"},
		{"the same", func(s *api.Seen) { s.Other = s.Meta }, "dirty 5", "other"},
		{"does not fit", func(s *api.Seen) { s.Fits = false }, "shape 512 169 16384 49152 unlike", "dirty"},
		{"does not fit: no step", func(s *api.Seen) { s.Fits = false }, "area 30 random", "step"},
		{"no keyslots", func(s *api.Seen) { s.Meta.Slots = nil }, "asked none", "slot"},
		{"none is asked", func(s *api.Seen) { clear(s.Meta.Slots) }, "asked none", "asked 0"},
		{"no rotation", func(s *api.Seen) { s.Meta.Rotation.On = false }, "rotation off", "step"},
		{"not Active", func(s *api.Seen) { s.Meta.Rotation.Active = false }, "rotation 5 to 8 down digests hot 3 done 4 at 49152 size 16384", "step"},
		{"up", func(s *api.Seen) { s.Meta.Rotation.Back = false }, "rotation 5 to 8 up digests hot 3 done 4 at 49152 size 16384 active 3", "rotation 5 to 8 down"},
		{"by journal", func(s *api.Seen) { s.Meta.Rotation.Mode = 1 }, "rotation 5 to 8 down journal hot 3 done 4 at 49152 size 16384 active 3", "rotation 5 to 8 down digests"},
		{"no mode", func(s *api.Seen) { s.Meta.Rotation.Mode = 0 }, "rotation 5 to 8 down mode 0 hot 3 done 4 at 49152 size 16384 active 3", "rotation off"},
		{"a mode below 0", func(s *api.Seen) { s.Meta.Rotation.Mode = math.MinInt }, "rotation 5 to 8 down mode -9223372036854775808 hot 3 done 4 at 49152 size 16384 active 3", "rotation off"},
		{"no areas", func(s *api.Seen) { s.Areas = nil }, "dirty 5", "area"},
		{"an area below 0", func(s *api.Seen) { s.Areas[0].Slot = -2 }, "area -2 zeros", "area 1"},
		{"a journal of zeros", func(s *api.Seen) { s.Areas[3].Zero = true }, "area journal zeros", "area journal odd"},
		{"the journal is another one", func(s *api.Seen) { s.Journal = api.ErrJournal }, "step error 130", "step right"},
		{"any error", func(s *api.Seen) { s.Journal = -1 }, "step error -1", "step right"},
	} {
		s := seen()
		c.do(&s)
		got := tells(t, c.name, s)
		if !slices.Contains(got, c.line) {
			t.Errorf("%s: no line %q in %q", c.name, c.line, got)
		}
		if slices.ContainsFunc(got, func(line string) bool { return strings.HasPrefix(line, c.not) }) {
			t.Errorf("%s: a line %q in %q", c.name, c.not, got)
		}
	}
}

// chance gives each field of a thing any value.
func chance(r *rand.Rand, v reflect.Value) {
	switch v.Kind() {
	case reflect.Bool:
		v.SetBool(r.Intn(2) == 0)
	case reflect.Int, reflect.Int64:
		v.SetInt([]int64{0, 1, 2, -1, int64(r.Uint64()), math.MinInt64, math.MaxInt64}[r.Intn(7)])
	case reflect.Uint64:
		v.SetUint([]uint64{0, 1, r.Uint64(), math.MaxUint64}[r.Intn(4)])
	case reflect.String:
		b := make([]byte, r.Intn(5))
		r.Read(b)
		v.SetString(string(b))
	case reflect.Slice:
		v.Set(reflect.MakeSlice(v.Type(), r.Intn(4), 4))
		for i := range v.Len() {
			chance(r, v.Index(i))
		}
	case reflect.Struct:
		for i := range v.NumField() {
			chance(r, v.Field(i))
		}
	}
}

// P15.5, P15.8: any Seen.
func TestLinesAny(t *testing.T) {
	r := rand.New(rand.NewSource(5))
	for i := range 5000 {
		var s api.Seen
		chance(r, reflect.ValueOf(&s).Elem())
		if r.Intn(2) == 0 {
			s.Takes = 1 + r.Intn(2)
		}
		tells(t, fmt.Sprint(i), s)
		if t.Failed() {
			return
		}
	}
}
