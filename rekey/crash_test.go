package rekey_test

import (
	"fmt"
	"math/rand"
	"testing"

	"coffer/api"
	"coffer/rekey"
	"coffer/slab"
	"coffer/tweak"
)

// bench is a device with data, and what a load would find of its metadata.
type bench struct {
	*slab.Slab
	from, to *tweak.Cipher
	workers  int
	found    api.Meta  // what was committed last
	asked    *api.Meta // what Commit was called with, and has not answered
	left     int       // operations till the power goes
	spared   int       // sectors of a write that are written then
	high     uint64    // the most that was Done
}

// Operations go through the bench, so that the power goes at any of them.

func (b *bench) Read(at uint64, into []byte) api.Errno {
	if b.tick() {
		b.Off()
	}
	return b.Slab.Read(at, into)
}

func (b *bench) Write(at uint64, data []byte) api.Errno {
	if b.tick() {
		if n := min(b.spared, len(data)/b.Unit()); n > 0 {
			b.Slab.Write(at, data[:n*b.Unit()])
		}
		b.Off()
	}
	return b.Slab.Write(at, data)
}

func (b *bench) Flush() api.Errno {
	if b.tick() {
		if b.spared%2 == 1 {
			b.Slab.Flush()
		}
		b.Off()
	}
	return b.Slab.Flush()
}

func (b *bench) tick() bool {
	b.left--
	return b.left == 0
}

// commit is such as P13.8 says: it begins with a Flush; while it has not answered, a crash leaves the one or the other.
func (b *bench) commit(m api.Meta) api.Errno {
	if e := b.Flush(); e != api.OK {
		return e
	}
	m = tidy(m)
	b.asked = &m
	for range 2 {
		if e := b.Flush(); e != api.OK {
			return e
		}
	}
	b.found, b.asked = m, nil
	return api.OK
}

// crash takes the power away and brings it back: of the writes that are not durable a subset is kept, and perhaps the commit that was not answered.
func (b *bench) crash(keep func(i int) bool, committed bool) {
	kept := make([]bool, len(b.Pending()))
	for i := range kept {
		kept[i] = keep(i)
	}
	b.Restart(kept...)
	if b.asked != nil && committed {
		b.found = *b.asked
	}
	b.asked = nil
}

// life is what one does between two crashes: a recovery, if it is needed, and steps to the end. It tells whether it came there.
func (b *bench) life(t *testing.T, name string) bool {
	t.Helper()
	w := rekey.Work{Device: b, From: b.from, To: b.to, Workers: b.workers, Commit: b.commit}
	m := tidy(b.found)
	rise := func() {
		if done := m.Rotation.Done; m.Rotation.On && done < b.high {
			t.Fatalf("%s: Done fell from %d to %d", name, b.high, done)
		}
		b.high = max(b.high, m.Rotation.Done)
	}
	rise()
	e := api.OK
	if m.Rotation.Active {
		m, e = rekey.Recover(w, m)
	}
	for e == api.OK && m.Rotation.On {
		rise()
		readable(t, name, b.Slab, m, b.from, b.to)
		m, _, e = rekey.Step(w, m)
	}
	if e != api.OK && e != api.ErrOff {
		t.Fatalf("%s: error %d", name, e)
	}
	if e == api.OK {
		readable(t, name, b.Slab, m, b.from, b.to)
	}
	return e == api.OK
}

// over tells whether the rotation is at its end by what is found.
func (b *bench) over() bool { return !b.found.Rotation.On }

func newBench(t *testing.T, r run, from, to *tweak.Cipher) *bench {
	m := r.begin(t)
	return &bench{Slab: laid(t, m, from, to), from: from, to: to, workers: r.workers, found: m}
}

// again gives the same in memory of its own.
func (b *bench) again() *bench {
	c := *b
	c.Slab = b.Copy()
	c.found = tidy(b.found)
	return &c
}

// P13.8, P13.9: the power goes at each operation; each subset of what is not durable is kept; and of those that are left, at each operation of the next life, some more of them.
func TestCrashes(t *testing.T) {
	from, to := cipher(t, "null", 1), cipher(t, "aes128-ecb", 2)
	for _, r := range []run{{512, 5, 1, false, 3, 1}, {512, 5, 1, true, 3, 2}, {512, 5, 2, false, 3, 3}, {512, 5, 2, true, 3, 1}, {512, 4, 2, false, 4, 1}, {512, 2, 1, true, 1, 1}} {
		t.Run(fmt.Sprint(r), func(t *testing.T) {
			t.Parallel()
			lives := 0
			everyCrash(t, "first", newBench(t, r, from, to), func(name string, b *bench) {
				lives++
				readableBehind(t, name, b)
				if lives%3 == 0 {
					everySecond(t, name, b, lives)
				}
			})
			if lives < 100 {
				t.Errorf("%d lives", lives)
			}
		})
	}
}

// everyCrash gives the bench behind each crash of one life.
func everyCrash(t *testing.T, name string, base *bench, then func(name string, b *bench)) {
	for left := 1; ; left++ {
		first := base.again()
		first.left = left
		if first.life(t, name) {
			return
		}
		for spared := range 3 {
			cut := base.again()
			cut.left, cut.spared = left, spared
			cut.life(t, name)
			for _, set := range subsets(len(cut.Pending())) {
				for _, committed := range []bool{false, true} {
					b := cut.again()
					asked := cut.asked
					b.asked = asked
					b.crash(func(i int) bool { return set>>i&1 == 1 }, committed)
					b.left, b.spared = 0, 0
					then(fmt.Sprintf("%s: operation %d, %d spared, kept %b, committed %v", name, left, spared, set, committed), b)
					if asked == nil {
						break
					}
				}
			}
		}
	}
}

// subsets gives all subsets of so many writes; some of them, where there are many.
func subsets(n int) []int {
	var out []int
	for set := range 1 << min(n, 6) {
		if n > 6 {
			set = set * 0x9e3779b1 >> 3 // spread over all of them
		}
		out = append(out, set&(1<<n-1))
	}
	return out
}

// readableBehind: without another crash the next life comes to the end.
func readableBehind(t *testing.T, name string, b *bench) {
	t.Helper()
	c := b.again()
	if !c.life(t, name) {
		t.Fatalf("%s: no end", name)
	}
	if !c.over() {
		t.Fatalf("%s: the rotation is still on", name)
	}
}

// everySecond lets the power go once more, at each operation of the next life.
func everySecond(t *testing.T, name string, b *bench, seed int) {
	t.Helper()
	for left := 1; ; left++ {
		c := b.again()
		c.left, c.spared = left, (left+seed)%4
		if c.life(t, name) {
			return
		}
		c.crash(func(i int) bool { return (seed>>(i%7)+left)%2 == 0 }, (left+seed)%3 > 0)
		c.left = 0
		readableBehind(t, fmt.Sprintf("%s; operation %d", name, left), c)
	}
}

// P13.8, P13.9: many crashes, at random, of all kinds of rotations.
func TestManyCrashes(t *testing.T) {
	t.Parallel()
	from, to := cipher(t, "aes128-cbc-plain64", 1), cipher(t, "aes128-xts-plain64", 2)
	rnd := rand.New(rand.NewSource(1313))
	lives := 0
	for range 400 {
		r := run{512, 1 + rnd.Intn(12), 1 + rnd.Intn(2), rnd.Intn(2) == 0, uint64(1 + rnd.Intn(6)), 1 + rnd.Intn(16)}
		b := newBench(t, r, from, to)
		steps := 0
		for !b.over() {
			if steps++; steps > 2000 {
				t.Fatalf("%v: no end", r)
			}
			b.left, b.spared = 1+rnd.Intn(20), rnd.Intn(4)
			b.life(t, fmt.Sprint(r))
			share := rnd.Intn(5)
			b.crash(func(int) bool { return rnd.Intn(4) < share }, rnd.Intn(2) == 0)
			lives++
		}
		readable(t, fmt.Sprint(r), b.Slab, b.found, from, to)
	}
	if lives < 800 {
		t.Errorf("%d lives", lives)
	}
}

// P13.9: steps that are answered OK come to so many, over crashes too, where each crash takes away at most the one that was under way.
func TestStepsOverFailures(t *testing.T) {
	from, to := cipher(t, "null", 1), cipher(t, "aes128-ecb", 2)
	for _, r := range []run{{512, 7, 1, false, 2, 1}, {512, 7, 2, true, 3, 1}} {
		for left := 1; left < 60; left++ {
			b := newBench(t, r, from, to)
			b.left = left
			w := rekey.Work{Device: b, From: from, To: to, Workers: 2, Commit: b.commit}
			good, mended := 0, 0
			for m := tidy(b.found); m.Rotation.On; {
				next, _, e := rekey.Step(w, m)
				if e == api.OK {
					good++
					m = next
					continue
				}
				b.crash(func(i int) bool { return i%2 == 0 }, true)
				if m = tidy(b.found); m.Rotation.Active {
					if m, e = rekey.Recover(w, m); e != api.OK {
						t.Fatalf("%v: error %d", r, e)
					}
					mended++
				}
			}
			want := (r.n+int(r.hot)-1)/int(r.hot) + 1
			if good+mended > want || good+mended < want-1 {
				t.Errorf("%v, operation %d: %d steps and %d recoveries", r, left, good, mended)
			}
		}
	}
}
