package rijndael_test

import (
	"bytes"
	"slices"
	"sync"
	"sync/atomic"
	"testing"

	"coffer/api"
	"coffer/rijndael"
)

// answers is what the calls of a key tell while it is not wiped.
type answers struct {
	in, out     api.Block
	data, xored []byte
	wrapped     []byte
	words       []uint32
}

func answersOf(t *testing.T, key []byte) answers {
	a := answers{in: api.Block(some(70, 16)), data: some(71, 4096), words: slowWords(key)}
	a.out = wantBlock(t, key, a.in)
	a.xored = wantStream(t, key, a.in, 0, a.data)
	a.wrapped = wantWrap(t, key, a.data)
	return a
}

// tryAll makes each call once. It tells how many were answered rightly and how many as of a wiped key; behind the first of those all must be.
func (a answers) tryAll(t *testing.T, k *rijndael.Key) (right, gone int) {
	check := func(name string, ok, empty bool, e api.Errno) {
		switch {
		case e == api.OK && ok && gone == 0:
			right++
		case e == api.ErrWiped && empty:
			gone++
		default:
			t.Errorf("%s: error %d, right %v, behind a wiped one %v", name, e, ok, gone > 0)
		}
	}
	quiet := func(ok, empty bool) api.Errno {
		if empty && !ok {
			return api.ErrWiped
		}
		return api.OK
	}
	b, e := k.Encrypt(a.in)
	check("Encrypt", b == a.out, b == api.Block{}, e)
	b, e = k.Decrypt(a.out)
	check("Decrypt", b == a.in, b == api.Block{}, e)
	got, e := rijndael.Wrap(k, a.data)
	check("Wrap", bytes.Equal(got, a.wrapped), len(got) == 0, e)
	got, e = rijndael.Unwrap(k, a.wrapped)
	check("Unwrap", bytes.Equal(got, a.data), len(got) == 0, e)
	w := k.Words()
	ok, empty := slices.Equal(w, a.words), len(w) == 0
	check("Words", ok, empty, quiet(ok, empty))
	n := k.Size()
	check("Size", n == 32, n == 0, quiet(n == 32, n == 0))
	n = k.Rounds()
	check("Rounds", n == 14, n == 0, quiet(n == 14, n == 0))
	s, e := k.Stream(a.in)
	check("Stream", s != nil, s == nil, e)
	if s != nil {
		got, e = s.XOR(a.data)
		check("XOR", bytes.Equal(got, a.xored), len(got) == 0 && s.At() == 0, e)
		at := s.At()
		e = s.Skip(5)
		check("Skip", s.At() == at+5, s.At() == at, e)
	}
	return right, gone
}

// P2.8: calls of several goroutines, without Wipe: all are answered as if alone.
func TestTogether(t *testing.T) {
	key := some(72, 32)
	k, a := mustKey(t, key), answersOf(t, key)
	var all sync.WaitGroup
	for range 8 {
		all.Go(func() {
			for range 20 {
				if right, gone := a.tryAll(t, k); right != 10 || gone != 0 {
					t.Errorf("%d right, %d as of a wiped key", right, gone)
				}
			}
		})
	}
	all.Wait()
}

// P2.8: with Wipe among them each call comes ahead of it, and is answered in full, or behind it.
func TestTogetherWithWipe(t *testing.T) {
	key := some(73, 32)
	a := answersOf(t, key)
	for range 40 {
		k := mustKey(t, key)
		var wiped atomic.Bool
		var all sync.WaitGroup
		begun := make(chan bool, 8)
		for range 8 {
			all.Go(func() {
				begun <- true
				for behind := false; !behind; {
					behind = wiped.Load()
					if right, _ := a.tryAll(t, k); behind && right != 0 {
						t.Errorf("%d calls behind Wipe are answered", right)
					}
				}
			})
		}
		for range 8 {
			<-begun
		}
		if e := k.Wipe(); e != api.OK {
			t.Errorf("Wipe: error %d", e)
		}
		wiped.Store(true)
		all.Wait()
		checkRefused(t, k, api.ErrWiped)
	}
}

// P2.8: of many that wipe one does it, the others find it done.
func TestManyWipes(t *testing.T) {
	for range 50 {
		k := mustKey(t, some(74, 16))
		var done, late atomic.Int64
		var all sync.WaitGroup
		for range 8 {
			all.Go(func() {
				switch k.Wipe() {
				case api.OK:
					done.Add(1)
				case api.ErrWiped:
					late.Add(1)
				}
			})
		}
		all.Wait()
		if done.Load() != 1 || late.Load() != 7 {
			t.Errorf("%d wiped it, %d came late", done.Load(), late.Load())
		}
	}
}

// P2.8: a long call, with Wipe in its midst, is answered in full or not at all.
func TestLongCallAndWipe(t *testing.T) {
	key, start, data := some(75, 32), api.Block(some(76, 16)), some(77, 1<<20)
	want := wantStream(t, key, start, 0, data)
	for range 12 {
		k := mustKey(t, key)
		s := mustStream(t, k, start)
		begun := make(chan bool)
		var all sync.WaitGroup
		all.Go(func() {
			close(begun)
			got, e := s.XOR(data)
			full := e == api.OK && bytes.Equal(got, want) && s.At() == 1<<20
			none := e == api.ErrWiped && len(got) == 0 && s.At() == 0
			if !full && !none {
				t.Errorf("error %d, %d bytes, At %d", e, len(got), s.At())
			}
		})
		<-begun
		if e := k.Wipe(); e != api.OK {
			t.Errorf("Wipe: error %d", e)
		}
		all.Wait()
	}
}
