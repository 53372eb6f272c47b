package convoy_test

import (
	"bytes"
	"fmt"
	"math"
	"slices"
	"sync"
	"testing"

	"coffer/api"
	"coffer/convoy"
	"coffer/tweak"
)

// P12.2: every cipher with each unit, by all calls.
func TestSpecs(t *testing.T) {
	other := cipher(t, "aes256-hctr2-plain64", 2)
	for k, spec := range tweak.Specs() {
		c := cipher(t, spec, int64(k))
		for u, unit := range units {
			workers, first := 1+(k*4+u)%16, uint64(k)<<33+7
			run := some(int64(k), 5*unit)
			name := fmt.Sprintf("%s, %d", spec, unit)
			sealed, e := convoy.Seal(c, workers, unit, first, run)
			if e != api.OK || !bytes.Equal(sealed, bySector(t, unit, first, run, c.Seal)) {
				t.Errorf("%s: Seal: error %d, or other bytes", name, e)
			}
			opened, e := convoy.Open(c, workers, unit, first, run)
			if e != api.OK || !bytes.Equal(opened, bySector(t, unit, first, run, c.Open)) {
				t.Errorf("%s: Open: error %d, or other bytes", name, e)
			}
			moved, e := convoy.Move(c, other, workers, unit, first, run)
			if e != api.OK || !bytes.Equal(moved, bySector(t, unit, first, opened, other.Seal)) {
				t.Errorf("%s: Move: error %d, or other bytes", name, e)
			}
			moved, e = convoy.Move(other, c, workers, unit, first, moved)
			if e != api.OK || !bytes.Equal(moved, run) {
				t.Errorf("%s: Move back: error %d, or other bytes", name, e)
			}
		}
	}
}

// P12.2, P12.3, P12.4: with each number of workers the same, whatever the run's length.
func TestWorkers(t *testing.T) {
	a, b := cipher(t, "aes128-xts-plain64", 1), cipher(t, "aes256-cbc-essiv:sha256", 2)
	for _, unit := range units {
		for _, n := range []int{0, 1, 2, 3, 15, 16, 17, 40} {
			run := some(int64(n), n*unit)
			sealed := bySector(t, unit, 9, run, a.Seal)
			other := bySector(t, unit, 9, run, b.Seal)
			sums := modelDigests(unit, run)
			for workers := 1; workers <= 16; workers++ {
				name := fmt.Sprintf("%d workers, %d sectors of %d", workers, n, unit)
				if got, e := convoy.Seal(a, workers, unit, 9, run); e != api.OK || !bytes.Equal(got, sealed) {
					t.Errorf("%s: Seal: error %d, or other bytes", name, e)
				}
				if got, e := convoy.Open(a, workers, unit, 9, sealed); e != api.OK || !bytes.Equal(got, run) {
					t.Errorf("%s: Open: error %d, or other bytes", name, e)
				}
				if got, e := convoy.Move(a, b, workers, unit, 9, sealed); e != api.OK || !bytes.Equal(got, other) {
					t.Errorf("%s: Move: error %d, or other bytes", name, e)
				}
				if got, e := convoy.Digests(workers, unit, run); e != api.OK || !slices.Equal(got, sums) {
					t.Errorf("%s: Digests: error %d, or other ones", name, e)
				}
			}
		}
	}
}

// P12.2: the greatest runs, of each unit.
func TestLongest(t *testing.T) {
	a, b := cipher(t, "null", 1), cipher(t, "null", 2)
	for _, unit := range units {
		run := some(3, api.MaxConvoy*unit)
		for _, ask := range map[string]func() ([]byte, api.Errno){
			"Seal": func() ([]byte, api.Errno) { return convoy.Seal(a, 16, unit, 0, run) },
			"Open": func() ([]byte, api.Errno) { return convoy.Open(a, 5, unit, 0, run) },
			"Move": func() ([]byte, api.Errno) { return convoy.Move(a, b, 3, unit, 0, run) },
		} {
			if got, e := ask(); e != api.OK || !bytes.Equal(got, run) {
				t.Errorf("%d sectors of %d: error %d, or other bytes", api.MaxConvoy, unit, e)
			}
		}
	}
	run := some(4, api.MaxConvoy*512)
	if got, e := convoy.Digests(16, 512, run); e != api.OK || !slices.Equal(got, modelDigests(512, run)) {
		t.Errorf("Digests: error %d, or other ones", e)
	}
	c := cipher(t, "aes128-cbc-plain64", 5)
	got, e := convoy.Seal(c, 16, 512, 1<<40, run)
	if e != api.OK || !bytes.Equal(got, bySector(t, 512, 1<<40, run, c.Seal)) {
		t.Errorf("Seal: error %d, or other bytes", e)
	}
}

// P12.2: sectors are numbered from first on, up to the last number that may be.
func TestNumbers(t *testing.T) {
	c, d := cipher(t, "aes128-cbc-plain64be", 1), cipher(t, "aes192-xts-plain64", 2)
	for _, n := range []int{0, 1, 2, 7} {
		last := math.MaxUint64 - uint64(n)
		for _, first := range []uint64{0, 1, 254, 1<<32 - 3, 1 << 32, 1<<63 - 2, 1 << 63, last - 1, last} {
			run := some(int64(n), n*512)
			sealed, e := convoy.Seal(c, 3, 512, first, run)
			if e != api.OK || !bytes.Equal(sealed, bySector(t, 512, first, run, c.Seal)) {
				t.Errorf("%d sectors from %d on: error %d, or other bytes", n, first, e)
			}
			opened, e := convoy.Open(c, 3, 512, first, sealed)
			if e != api.OK || !bytes.Equal(opened, run) {
				t.Errorf("%d sectors from %d on: Open: error %d, or other bytes", n, first, e)
			}
			moved, e := convoy.Move(c, d, 3, 512, first, sealed)
			if e != api.OK || !bytes.Equal(moved, bySector(t, 512, first, run, d.Seal)) {
				t.Errorf("%d sectors from %d on: Move: error %d, or other bytes", n, first, e)
			}
		}
	}
}

// P12.4: runs put one behind the other.
func TestOneBehindTheOther(t *testing.T) {
	a, b := cipher(t, "aes256-xts-plain64", 1), cipher(t, "aes128-lrw-benbi", 2)
	const n, first = 21, 1000
	run := some(7, n*512)
	ways := map[string]func(workers int, first uint64, run []byte) ([]byte, api.Errno){
		"Seal": func(w int, f uint64, r []byte) ([]byte, api.Errno) { return convoy.Seal(a, w, 512, f, r) },
		"Open": func(w int, f uint64, r []byte) ([]byte, api.Errno) { return convoy.Open(b, w, 512, f, r) },
		"Move": func(w int, f uint64, r []byte) ([]byte, api.Errno) { return convoy.Move(a, b, w, 512, f, r) },
	}
	for name, way := range ways {
		whole, e := way(4, first, run)
		expect(t, name, e, api.OK)
		for cut := 0; cut <= n; cut++ {
			head, e := way(1+cut%16, first, run[:cut*512])
			tail, f := way(16-cut%16, first+uint64(cut), run[cut*512:])
			if e != api.OK || f != api.OK || !bytes.Equal(append(head, tail...), whole) {
				t.Errorf("%s, cut at %d: errors %d, %d, or other bytes", name, cut, e, f)
			}
		}
	}
	sums, e := convoy.Digests(2, 512, run)
	expect(t, "Digests", e, api.OK)
	for cut := 0; cut <= n; cut++ {
		head, _ := convoy.Digests(3, 512, run[:cut*512])
		tail, _ := convoy.Digests(1, 512, run[cut*512:])
		if !slices.Equal(append(head, tail...), sums) {
			t.Errorf("Digests, cut at %d: other ones", cut)
		}
	}
}

// P12.4: there and back, and Move as Open and Seal.
func TestThereAndBack(t *testing.T) {
	a, b := cipher(t, "aes192-cbc-elephant", 1), cipher(t, "aes256-xts-plain", 2)
	for _, unit := range units {
		run := some(int64(unit), 6*unit)
		for workers := 1; workers <= 16; workers += 3 {
			sealed, _ := convoy.Seal(a, workers, unit, 4, run)
			opened, _ := convoy.Open(a, 17-workers, unit, 4, sealed)
			same, _ := convoy.Move(a, a, workers, unit, 4, run)
			plain, _ := convoy.Open(a, workers, unit, 4, run)
			other, _ := convoy.Seal(b, workers, unit, 4, plain)
			moved, _ := convoy.Move(a, b, 17-workers, unit, 4, run)
			if !bytes.Equal(opened, run) || !bytes.Equal(same, run) || !bytes.Equal(moved, other) || bytes.Equal(sealed, run) {
				t.Errorf("%d workers, sectors of %d: other bytes", workers, unit)
			}
		}
	}
}

// P12.2: an error of layer 3: no bytes, and the error; without sectors there is none.
func TestLayerThree(t *testing.T) {
	good := cipher(t, "aes128-ecb", 1)
	for _, c := range []struct {
		name     string
		from, to *tweak.Cipher
		e        api.Errno
	}{
		{"wiped", wiped(t), good, api.ErrWiped},
		{"to a wiped one", good, wiped(t), api.ErrWiped},
		{"not made", &tweak.Cipher{}, good, api.ErrNil},
		{"to one not made", good, &tweak.Cipher{}, api.ErrNil},
		{"wiped, to one not made", wiped(t), &tweak.Cipher{}, api.ErrWiped},
		{"not made, to a wiped one", &tweak.Cipher{}, wiped(t), api.ErrNil},
	} {
		for workers := 1; workers <= 16; workers++ {
			for _, n := range []int{1, 2, 20} {
				out, e := convoy.Move(c.from, c.to, workers, 512, 0, make([]byte, 512*n))
				expect(t, c.name, e, c.e)
				expect(t, c.name+": bytes", len(out), 0)
			}
			out, e := convoy.Move(c.from, c.to, workers, 512, 0, nil)
			expect(t, c.name+", no sectors", e, api.OK)
			expect(t, c.name+", no sectors: bytes", len(out), 0)
		}
	}
	for _, n := range []int{0, 1, 9} {
		run, want, none := make([]byte, 512*n), api.ErrWiped, api.ErrNil
		if n == 0 {
			want, none = api.OK, api.OK
		}
		for workers := 1; workers <= 16; workers++ {
			out, e := convoy.Seal(wiped(t), workers, 512, 3, run)
			expect(t, "Seal, wiped", e, want)
			expect(t, "Seal, wiped: bytes", len(out), 0)
			out, e = convoy.Open(wiped(t), workers, 512, 3, run)
			expect(t, "Open, wiped", e, want)
			expect(t, "Open, wiped: bytes", len(out), 0)
			_, e = convoy.Seal(&tweak.Cipher{}, workers, 512, 3, run)
			expect(t, "Seal, not made", e, none)
			_, e = convoy.Open(&tweak.Cipher{}, workers, 512, 3, run)
			expect(t, "Open, not made", e, none)
		}
	}
}

// P12.5: runs within a do, and by several goroutines with one cipher.
func TestRunsTogether(t *testing.T) {
	a, b := cipher(t, "aes128-xts-plain64", 1), cipher(t, "aes256-cbc-tcw", 2)
	run := some(5, 7*1024)
	sealed := bySector(t, 1024, 2, run, a.Seal)
	other := bySector(t, 1024, 2, run, b.Seal)
	sums := modelDigests(1024, run)
	check := func(workers int) bool {
		one, e := convoy.Seal(a, workers, 1024, 2, run)
		two, f := convoy.Open(a, workers, 1024, 2, sealed)
		three, g := convoy.Move(a, b, workers, 1024, 2, sealed)
		four, h := convoy.Digests(workers, 1024, run)
		return e == api.OK && f == api.OK && g == api.OK && h == api.OK && bytes.Equal(one, sealed) && bytes.Equal(two, run) && bytes.Equal(three, other) && slices.Equal(four, sums)
	}
	n, e := convoy.Each(4, 32, func(i int) api.Errno {
		if !check(1 + i%16) {
			return 99
		}
		return api.OK
	})
	expect(t, "within", n, 32)
	expect(t, "within", e, api.OK)
	var all sync.WaitGroup
	for g := range 8 {
		all.Go(func() {
			for i := range 4 {
				if !check(1 + (g+i*3)%16) {
					t.Errorf("goroutine %d: another answer", g)
				}
			}
		})
	}
	all.Wait()
}
