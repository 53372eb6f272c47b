package rekey_test

import (
	"go/parser"
	"go/token"
	"path/filepath"
	"runtime"
	"slices"
	"strconv"
	"strings"
	"testing"
	"time"

	"coffer/api"
	"coffer/rekey"
)

// roomy gives a list in memory of its own, with spare room that holds the first item once more.
func roomy[T any](list []T) []T {
	out := slices.Clone(list)
	return append(out, slices.Repeat(list[:1], 3)...)[:len(list)]
}

// spacious gives metadata whose lists all have spare room.
func spacious(m api.Meta) api.Meta {
	m = tidy(m)
	m.Slots, m.Epochs, m.Segments, m.Tokens = roomy(m.Slots), roomy(m.Epochs), roomy(m.Segments), roomy(m.Tokens)
	for i, t := range m.Tokens {
		m.Tokens[i].Slots = roomy(t.Slots)
	}
	return m
}

// whole gives the same metadata with the spare room of all lists in them.
func whole(m api.Meta) api.Meta {
	m.Slots, m.Epochs, m.Segments = m.Slots[:cap(m.Slots)], m.Epochs[:cap(m.Epochs)], m.Segments[:cap(m.Segments)]
	m.Tokens = slices.Clone(m.Tokens[:cap(m.Tokens)])
	for i, t := range m.Tokens {
		m.Tokens[i].Slots = t.Slots[:cap(t.Slots)]
	}
	return tidy(m)
}

// fill overwrites all lists of metadata, their spare room too: whoever shares memory with them shows it.
func fill(m api.Meta) {
	for _, t := range m.Tokens[:cap(m.Tokens)] {
		spoil(t.Slots, -7)
	}
	spoil(m.Slots, api.Slot{Number: -7})
	spoil(m.Epochs, api.Epoch{Number: 777})
	spoil(m.Segments, api.Segment{Start: 777})
	spoil(m.Tokens, api.Token{Number: -7})
}

func spoil[T any](list []T, with T) {
	list = list[:cap(list)]
	for i := range list {
		list[i] = with
	}
}

// apart calls twice, spoiling the first answer and in the end what was handed in: the second answer shows none of it.
func apart(t *testing.T, name string, m api.Meta, ask func(m api.Meta) (api.Meta, api.Errno)) {
	t.Helper()
	kept := whole(m)
	one, e := ask(m)
	expect(t, name, e, api.OK)
	want := tidy(one)
	fill(one)
	if !same(whole(m), kept) {
		t.Errorf("%s: what is handed in is changed, or shared", name)
	}
	two, e := ask(m)
	expect(t, name, e, api.OK)
	three, _ := ask(m)
	fill(three)
	fill(m)
	if !same(two, want) {
		t.Errorf("%s: an answer shares memory", name)
	}
}

// P13.7, rule 2: Begin.
func TestBeginApart(t *testing.T) {
	b := some(small(5), api.ByJournal, 8, true)
	apart(t, "Begin", spacious(b.m), func(m api.Meta) (api.Meta, api.Errno) {
		return rekey.Begin(m, b.to, b.area, b.turn)
	})
}

// P13.7: what Commit is handed is its own; it may overwrite all of it.
func TestCommitApart(t *testing.T) {
	from, to := cipher(t, "null", 1), cipher(t, "aes128-ecb", 2)
	for _, mode := range []int{1, 2} {
		for done := uint64(0); done <= 5; done++ {
			base := at(run{512, 5, mode, false, 2, 3}.begin(t), done)
			if done%2 == 0 {
				base.Rotation.Back = true
				base = at(base, done)
			}
			s := laid(t, base, from, to)
			step := func(m api.Meta) (api.Meta, api.Errno) {
				d := &tape{Slab: s.Copy()}
				w := d.work(from, to, 3)
				w.Commit = func(m api.Meta) api.Errno {
					e := d.commit(m)
					fill(m)
					return e
				}
				want, meta := modelStep(t, d.Slab, w, base)
				got, _, e := rekey.Step(w, m)
				compare(t, "Step", 512, d.events, want)
				if !same(got, meta) {
					t.Errorf("%v, not %v", got, meta)
				}
				fill(got)
				for _, m := range d.metas {
					fill(m)
				}
				got, _, _ = rekey.Step((&tape{Slab: s.Copy()}).work(from, to, 3), m)
				return got, e
			}
			apart(t, "Step", spacious(base), step)
			if done == 5 {
				continue
			}
			broke, midst := broken(t, base, from, to, func(i uint64) bool { return i == 1 })
			apart(t, "Recover", spacious(midst), func(m api.Meta) (api.Meta, api.Errno) {
				d := &tape{Slab: broke.Copy()}
				w := d.work(from, to, 3)
				var kept []api.Meta
				w.Commit = func(m api.Meta) api.Errno {
					kept = append(kept, m)
					return d.commit(m)
				}
				got, e := rekey.Recover(w, m)
				for _, m := range kept {
					fill(m)
				}
				return got, e
			})
		}
	}
}

// P13.7: metadata that Commit is handed share nothing with one another either.
func TestCommitsApart(t *testing.T) {
	c := cipher(t, "null", 1)
	m := spacious(begun(t, small(5), api.Turn{Mode: api.ByDigests, Hot: 2}))
	d := &tape{Slab: laid(t, m, c, c)}
	got, _, e := rekey.Step(d.work(c, c, 1), m)
	expect(t, "Step", e, api.OK)
	expect(t, "commits", len(d.metas), 2)
	second, answer := tidy(d.metas[1]), tidy(got)
	fill(d.metas[0])
	if !same(d.metas[1], second) || !same(got, answer) {
		t.Error("the first one shares memory")
	}
	fill(d.metas[1])
	if !same(got, answer) {
		t.Error("the second one shares memory")
	}
}

// Rule 4: what Commit does to the metadata that were handed in makes no difference to the call.
func TestHandedIn(t *testing.T) {
	from, to := cipher(t, "null", 1), cipher(t, "aes128-ecb", 2)
	m := spacious(begun(t, small(5), api.Turn{Mode: api.ByJournal, Hot: 2}))
	d := &tape{Slab: laid(t, m, from, to)}
	w := d.work(from, to, 3)
	want, meta := modelStep(t, d.Slab, w, m)
	w.Commit = func(given api.Meta) api.Errno {
		fill(m)
		return d.commit(given)
	}
	got, _, e := rekey.Step(w, m)
	expect(t, "error", e, api.OK)
	compare(t, "Step", 512, d.events, want)
	if !same(got, meta) {
		t.Errorf("%v, not %v", got, meta)
	}
}

// Rule 2: Segments.
func TestSegmentsApart(t *testing.T) {
	r := api.Rotation{On: true, From: 1, To: 2, Done: 3}
	one, _ := rekey.Segments(5, r)
	two, _ := rekey.Segments(5, r)
	spoil(one, api.Segment{Start: 777})
	if !slices.Equal(two, modelSegments(5, r)) {
		t.Errorf("%v", two)
	}
}

// Rule 1: whatever Commit or the device throws is caught, and the answer is an error.
func TestThrown(t *testing.T) {
	c := cipher(t, "null", 1)
	for _, thrown := range []any{"a word", api.ErrOff, nil, 5} {
		for _, done := range []uint64{0, 5} {
			m := at(begun(t, small(5), api.Turn{Mode: api.ByJournal, Hot: 2}), done)
			d := &tape{Slab: laid(t, m, c, c)}
			w := d.work(c, c, 1)
			w.Commit = func(api.Meta) api.Errno { panic(thrown) }
			got, over, e := rekey.Step(w, m)
			expect(t, "error", e, api.ErrPanic)
			expect(t, "over", over, false)
			if !same(got, api.Meta{}) {
				t.Errorf("%v beside an error", got)
			}
		}
	}
	m := begun(t, small(5), api.Turn{Mode: api.ByJournal, Hot: 2})
	w := (&tape{}).work(c, c, 1)
	w.Device = (*tape)(nil)
	_, _, e := rekey.Step(w, m)
	expect(t, "a device that is nothing", e, api.ErrPanic)
	_, e = rekey.Recover(w, active(m, nil))
	expect(t, "a device that is nothing", e, api.ErrPanic)
}

// A step may be made within another one's Commit: nothing is kept between calls.
func TestWithin(t *testing.T) {
	from, to := cipher(t, "null", 1), cipher(t, "aes128-ecb", 2)
	m := begun(t, small(5), api.Turn{Mode: api.ByDigests, Hot: 2})
	d := &tape{Slab: laid(t, m, from, to)}
	w := d.work(from, to, 3)
	want, meta := modelStep(t, d.Slab, w, m)
	w.Commit = func(given api.Meta) api.Errno {
		other := &tape{Slab: laid(t, m, from, to)}
		inner, _, e := rekey.Step(other.work(from, to, 2), m)
		if e != api.OK || !same(inner, meta) {
			t.Errorf("within: %v, error %d", inner, e)
		}
		return d.commit(given)
	}
	got, _, e := rekey.Step(w, m)
	expect(t, "error", e, api.OK)
	compare(t, "Step", 512, d.events, want)
	if !same(got, meta) {
		t.Errorf("%v, not %v", got, meta)
	}
}

// LANGUAGE.md: all goroutines have ended when a call answers.
func TestGoroutines(t *testing.T) {
	from, to := cipher(t, "null", 1), cipher(t, "aes128-ecb", 2)
	m := begun(t, small(5), api.Turn{Mode: api.ByDigests, Hot: 4})
	d := &tape{Slab: laid(t, m, from, to)}
	ahead := runtime.NumGoroutine()
	for m.Rotation.On {
		m, _, _ = rekey.Step(d.work(from, to, 16), m)
	}
	for range 100 { // one that has ended may be counted for a moment
		if runtime.NumGoroutine() <= ahead {
			return
		}
		time.Sleep(time.Millisecond)
	}
	t.Errorf("%d goroutines, not %d", runtime.NumGoroutine(), ahead)
}

// The chapter: package rekey leans on api, digest, tweak and convoy; LANGUAGE.md's packages alone.
func TestImports(t *testing.T) {
	may := []string{"iter", "slices", "strings", "coffer/api", "coffer/digest", "coffer/tweak", "coffer/convoy"}
	files, err := filepath.Glob("*.go")
	if err != nil || len(files) == 0 {
		t.Fatal(err)
	}
	for _, f := range files {
		if strings.HasSuffix(f, "_test.go") {
			continue
		}
		parsed, err := parser.ParseFile(token.NewFileSet(), f, nil, parser.ImportsOnly)
		if err != nil {
			t.Fatal(err)
		}
		for _, i := range parsed.Imports {
			if path, _ := strconv.Unquote(i.Path.Value); !slices.Contains(may, path) {
				t.Errorf("%s imports %s", f, path)
			}
		}
	}
}
