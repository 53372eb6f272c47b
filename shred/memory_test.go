package shred_test

import (
	"bytes"
	"sync"
	"testing"

	"coffer/api"
	"coffer/shred"
)

// P4.5: zeros from the first byte to the last, and nothing ahead of them or behind.
func TestWipe(t *testing.T) {
	shred.Wipe(nil)
	shred.Wipe([]byte{})
	for _, n := range []int{0, 1, 2, 7, 8, 9, 63, 64, 65, 1023, 1024, 1025, 1 << 20} {
		all := bytes.Repeat([]byte{0xee}, n+40)
		list := all[20 : 20+n]
		if n > 0 {
			list[n/2] = 0
		}
		shred.Wipe(list)
		if !bytes.Equal(list, make([]byte, n)) {
			t.Errorf("%d bytes: not all are 0", n)
		}
		beside := append(bytes.Clone(all[:20]), all[20+n:]...)
		if !bytes.Equal(beside, bytes.Repeat([]byte{0xee}, 40)) {
			t.Errorf("%d bytes: others are changed: %x", n, beside)
		}
	}
}

// roomy gives a list with spare room behind it, and the whole of its memory.
func roomy(seed int64, n int) (list, all []byte) {
	all = some(seed, n+50)
	return all[:n], all
}

// overwrite spoils a list, its spare room too: whoever shares its memory shows it.
func overwrite(b []byte) {
	b = b[:cap(b)]
	for i := range b {
		b[i] ^= 0xa5
	}
}

// checkApart makes a call twice: both answers are want, neither shares memory with the other or with what is handed in, whose memory stays as it was.
func checkApart(t *testing.T, name string, want []byte, call func() ([]byte, api.Errno), handed ...[]byte) {
	t.Helper()
	var copies [][]byte
	for _, h := range handed {
		copies = append(copies, bytes.Clone(h))
	}
	a, e := call()
	b, f := call()
	if e != api.OK || f != api.OK || !bytes.Equal(a, want) || !bytes.Equal(b, want) {
		t.Fatalf("%s: errors %d, %d, or another answer", name, e, f)
	}
	overwrite(a)
	if !bytes.Equal(b, want) {
		t.Errorf("%s: two answers share memory", name)
	}
	overwrite(b)
	for i, h := range handed {
		if !bytes.Equal(h, copies[i]) {
			t.Errorf("%s: what is handed in is changed, or shared with an answer", name)
		}
	}
	if c, e := call(); e != api.OK || !bytes.Equal(c, want) {
		t.Errorf("%s: something is kept from answer to answer", name)
	}
}

// P4.6: what is handed in stays as it was, and each answer is new memory.
func TestApart(t *testing.T) {
	for _, bits := range hashes {
		for _, size := range secretSizes(bits) {
			block, whole := roomy(70, size)
			checkApart(t, "Diffuse", modelDiffuse(bits, block), func() ([]byte, api.Errno) { return shred.Diffuse(bits, block) }, whole)
			for _, stripes := range []int{1, 2, 4} {
				secret, wholeSecret := roomy(71, size)
				random, wholeRandom := roomy(72, size*(stripes-1))
				want := modelSplit(bits, secret, random)
				checkApart(t, "Split", want, func() ([]byte, api.Errno) { return shred.Split(bits, secret, stripes, random) }, wholeSecret, wholeRandom)
				wholeMaterial := append(bytes.Clone(want), some(73, 50)...)
				material := wholeMaterial[:len(want)]
				checkApart(t, "Merge", bytes.Clone(secret), func() ([]byte, api.Errno) { return shred.Merge(bits, material, stripes) }, wholeMaterial)
			}
		}
	}
}

// P4.6: a call that is refused changes nothing either.
func TestRefusedApart(t *testing.T) {
	list, whole := roomy(74, 1025)
	kept := bytes.Clone(whole)
	shred.Diffuse(256, list)
	shred.Split(256, list, 2, list)
	shred.Split(256, list[:5], 2, list[:6])
	shred.Merge(256, list, 1)
	shred.Merge(1, list[:4], 2)
	if !bytes.Equal(whole, kept) {
		t.Errorf("what is handed in is changed")
	}
}

// P4.6: the secret and the random bytes may lie in one memory, as neither is written to.
func TestOneMemory(t *testing.T) {
	for _, bits := range hashes {
		list, whole := roomy(75, 3*70)
		want := modelSplit(bits, list[70:140], list)
		checkApart(t, "Split", want, func() ([]byte, api.Errno) { return shred.Split(bits, list[70:140], 4, list) }, whole)
	}
}

// P4.6: nothing is kept of what is handed in, be it changed behind the call.
func TestNothingIsKept(t *testing.T) {
	secret, random := some(76, 40), some(77, 120)
	want := modelSplit(256, secret, random)
	m := mustSplit(t, 256, secret, 4, random)
	overwrite(secret)
	overwrite(random)
	if !bytes.Equal(m, want) {
		t.Errorf("Split's answer changes with its arguments")
	}
	s := mustMerge(t, 256, m, 4)
	overwrite(m)
	overwrite(secret)
	if !bytes.Equal(s, secret) {
		t.Errorf("Merge's answer changes with its argument")
	}
	d, _ := shred.Diffuse(256, secret)
	want = modelDiffuse(256, secret)
	overwrite(secret)
	if !bytes.Equal(d, want) {
		t.Errorf("Diffuse's answer changes with its argument")
	}
}

// P4.6: calls of several goroutines at one time, with the same arguments.
func TestTogether(t *testing.T) {
	var all sync.WaitGroup
	for _, bits := range hashes {
		secret, random := some(80, 100), some(81, 900)
		block, material := modelDiffuse(bits, secret), modelSplit(bits, secret, random)
		for range 4 {
			all.Go(func() {
				for range 20 {
					m, e := shred.Split(bits, secret, 10, random)
					s, f := shred.Merge(bits, material, 10)
					d, g := shred.Diffuse(bits, secret)
					n, h := shred.Random(100, 10)
					if e != api.OK || f != api.OK || g != api.OK || h != api.OK {
						t.Errorf("%d: errors %d, %d, %d, %d", bits, e, f, g, h)
					}
					if !bytes.Equal(m, material) || !bytes.Equal(s, secret) || !bytes.Equal(d, block) || n != 900 {
						t.Errorf("%d: another answer", bits)
					}
					shred.Wipe(s)
					if !bytes.Equal(s, make([]byte, 100)) {
						t.Errorf("%d: not wiped", bits)
					}
				}
			})
		}
	}
	all.Wait()
}
