package convoy_test

import (
	"fmt"
	"math"
	"testing"

	"coffer/api"
	"coffer/convoy"
	"coffer/tweak"
)

// wrong is a thing that a call refuses. The rank is its place in the order in which the chapter names them.
type wrong[A any] struct {
	name string
	rank int
	e    api.Errno
	do   func(a *A)
}

// pairs calls with each thing alone, and with each two of them: the one of the lower rank is told. It is done last, so that it stands where both are of one field.
func pairs[A any](all []wrong[A], ask func(name string, e api.Errno, do ...func(a *A))) {
	for i, a := range all {
		ask(a.name, a.e, a.do)
		for _, b := range all[i+1:] {
			first, last := b, a
			if b.rank < a.rank {
				first, last = a, b
			}
			ask(a.name+"; "+b.name, last.e, first.do, last.do)
		}
	}
}

// counting is what Each is called with.
type counting struct {
	workers, n int
	do         func(i int) api.Errno
}

var badWorkers = []int{math.MinInt, -1, 0, 17, 18, 256 + 1, 1<<32 + 1, math.MaxInt}

// Each's refusals in their order, each against each other; do is not called.
func TestEachRefused(t *testing.T) {
	all := []wrong[counting]{{"no do", 1, api.ErrNil, func(a *counting) { a.do = nil }}}
	for _, w := range badWorkers {
		all = append(all, wrong[counting]{fmt.Sprint(w, " workers"), 2, api.ErrArg, func(a *counting) { a.workers = w }})
	}
	for _, n := range []int{math.MinInt, -4097, -1} {
		all = append(all, wrong[counting]{fmt.Sprint("n ", n), 2, api.ErrArg, func(a *counting) { a.n = n }})
	}
	for _, n := range []int{4097, 4098, 1 << 32, math.MaxInt} {
		all = append(all, wrong[counting]{fmt.Sprint("n ", n), 3, api.ErrLong, func(a *counting) { a.n = n }})
	}
	pairs(all, func(name string, e api.Errno, do ...func(a *counting)) {
		a := counting{3, 5, func(int) api.Errno {
			t.Errorf("%s: do is called", name)
			return 55
		}}
		for _, change := range do {
			change(&a)
		}
		n, got := convoy.Each(a.workers, a.n, a.do)
		expect(t, name, got, e)
		expect(t, name+": number", n, 0)
	})
}

// running is what the other calls are called with.
type running struct {
	from, to      *tweak.Cipher
	workers, unit int
	first         uint64
	bytes         int
}

// notRun lists what all of them refuse.
func notRun() []wrong[running] {
	var out []wrong[running]
	for _, w := range badWorkers {
		out = append(out, wrong[running]{fmt.Sprint(w, " workers"), 2, api.ErrArg, func(a *running) { a.workers = w }})
	}
	for _, u := range []int{math.MinInt, -512, -1, 0, 1, 16, 256, 511, 513, 768, 1023, 1025, 1536, 2047, 3072, 4095, 4097, 8192, math.MaxInt} {
		out = append(out, wrong[running]{fmt.Sprint("unit ", u), 2, api.ErrArg, func(a *running) { a.unit = u }})
	}
	for _, n := range []int{1, 511, 513, 1023, 4096*512 + 1, 4097*512 + 511} {
		out = append(out, wrong[running]{fmt.Sprint(n, " bytes"), 3, api.ErrShort, func(a *running) { a.bytes = n }})
	}
	for _, n := range []int{4097, 4098, 5000} {
		out = append(out, wrong[running]{fmt.Sprint(n, " sectors"), 4, api.ErrLong, func(a *running) { a.bytes = n * 512 }})
	}
	return out
}

// notNumbered lists numbers that are too great for two sectors.
func notNumbered() []wrong[running] {
	var out []wrong[running]
	for _, first := range []uint64{math.MaxUint64, math.MaxUint64 - 1} {
		out = append(out, wrong[running]{fmt.Sprint("first ", first), 5, api.ErrArg, func(a *running) { a.first = first }})
	}
	return out
}

// refuse holds a call against each two of the things that it refuses.
func refuse(t *testing.T, all []wrong[running], ask func(a running, run []byte) (int, api.Errno)) {
	t.Helper()
	good := cipher(t, "aes128-xts-plain64", 1)
	space := make([]byte, 5000*512)
	pairs(all, func(name string, e api.Errno, do ...func(a *running)) {
		a := running{good, good, 3, 512, 7, 1024}
		for _, change := range do {
			change(&a)
		}
		n, got := ask(a, space[:a.bytes])
		expect(t, name, got, e)
		expect(t, name+": answer", n, 0)
	})
}

// The refusals of Seal, Open, Move and Digests in their order.
func TestRunsRefused(t *testing.T) {
	noFrom := wrong[running]{"no cipher", 1, api.ErrNil, func(a *running) { a.from = nil }}
	noTo := wrong[running]{"no other cipher", 1, api.ErrNil, func(a *running) { a.to = nil }}
	stale := wrong[running]{"a wiped cipher", 6, api.ErrWiped, func(a *running) { a.from = wiped(t) }}
	staleTo := wrong[running]{"another one that is wiped", 6, api.ErrWiped, func(a *running) { a.to = wiped(t) }}
	one := append(append(notRun(), notNumbered()...), noFrom, stale)
	refuse(t, one, func(a running, run []byte) (int, api.Errno) {
		out, e := convoy.Seal(a.from, a.workers, a.unit, a.first, run)
		return len(out), e
	})
	refuse(t, one, func(a running, run []byte) (int, api.Errno) {
		out, e := convoy.Open(a.from, a.workers, a.unit, a.first, run)
		return len(out), e
	})
	refuse(t, append(one, noTo, staleTo), func(a running, run []byte) (int, api.Errno) {
		out, e := convoy.Move(a.from, a.to, a.workers, a.unit, a.first, run)
		return len(out), e
	})
	refuse(t, notRun(), func(a running, run []byte) (int, api.Errno) {
		out, e := convoy.Digests(a.workers, a.unit, run)
		return len(out), e
	})
}

// The sum of first and the number of sectors, at its edge; a run without sectors may begin at the last number.
func TestLastNumber(t *testing.T) {
	c := cipher(t, "null", 1)
	for n := range 20 {
		for less := range 20 {
			want := api.OK
			if less < n {
				want = api.ErrArg
			}
			first, run := math.MaxUint64-uint64(less), make([]byte, n*512)
			_, e := convoy.Seal(c, 2, 512, first, run)
			expect(t, fmt.Sprintf("Seal, %d sectors, %d below the last number", n, less), e, want)
			_, e = convoy.Open(c, 2, 512, first, run)
			expect(t, fmt.Sprintf("Open, %d sectors, %d below the last number", n, less), e, want)
			_, e = convoy.Move(c, c, 2, 512, first, run)
			expect(t, fmt.Sprintf("Move, %d sectors, %d below the last number", n, less), e, want)
		}
	}
}

// A run without sectors: empty answers, whatever the first number; a unit that may not be is refused there too.
func TestNoSectors(t *testing.T) {
	c := cipher(t, "aes128-xts-plain64", 1)
	for _, run := range [][]byte{nil, {}} {
		for _, unit := range units {
			a, e := convoy.Seal(c, 16, unit, math.MaxUint64, run)
			b, f := convoy.Open(c, 16, unit, math.MaxUint64, run)
			m, g := convoy.Move(c, c, 16, unit, math.MaxUint64, run)
			d, h := convoy.Digests(16, unit, run)
			if e != api.OK || f != api.OK || g != api.OK || h != api.OK || len(a)+len(b)+len(m)+len(d) != 0 {
				t.Errorf("unit %d: errors %d, %d, %d, %d, or something in the answers", unit, e, f, g, h)
			}
		}
		if _, e := convoy.Digests(1, 0, run); e != api.ErrArg {
			t.Errorf("Digests without a unit: %d", e)
		}
		if _, e := convoy.Seal(c, 1, 0, 0, run); e != api.ErrArg {
			t.Errorf("Seal without a unit: %d", e)
		}
	}
}
