package shred_test

import (
	"bytes"
	"go/parser"
	"go/token"
	"math"
	"path/filepath"
	"slices"
	"strconv"
	"strings"
	"testing"

	"coffer/api"
	"coffer/shred"
)

// P4.1: what comes first of two errors, and the product, at every edge of both numbers.
func TestRandom(t *testing.T) {
	for _, size := range []int{math.MinInt, -1, 0, 1, 2, 32, 1023, 1024, 1025, math.MaxInt} {
		for _, stripes := range []int{math.MinInt, -1, 0, 1, 2, 3, 3999, 4000, 4001, math.MaxInt} {
			var n int
			var want api.Errno
			switch {
			case size < 1:
				want = api.ErrShort
			case size > 1024:
				want = api.ErrLong
			case stripes < 1 || stripes > 4000:
				want = api.ErrStripes
			default:
				n = size * (stripes - 1)
			}
			if got, e := shred.Random(size, stripes); got != n || e != want {
				t.Errorf("Random(%d, %d): %d, error %d, not %d, %d", size, stripes, got, e, n, want)
			}
		}
	}
}

// P4.2: every length, of no byte and of MaxSecret too: the last piece is of every length that it may have.
func TestDiffuse(t *testing.T) {
	data := some(1, api.MaxSecret)
	for _, bits := range hashes {
		for n := range len(data) + 1 {
			if b, e := shred.Diffuse(bits, data[:n]); e != api.OK || !bytes.Equal(b, modelDiffuse(bits, data[:n])) {
				t.Fatalf("Diffuse(%d) of %d bytes: %x, error %d", bits, n, b, e)
			}
		}
		if b, e := shred.Diffuse(bits, nil); len(b) != 0 || e != api.OK {
			t.Errorf("Diffuse(%d) of nil: %x, error %d", bits, b, e)
		}
	}
}

// P4.2: a piece hangs on its own bytes and its number alone; the same bytes at two places become others.
func TestDiffusePieces(t *testing.T) {
	for _, bits := range hashes {
		size := bits / 8
		same, _ := shred.Diffuse(bits, make([]byte, 3*size))
		if bytes.Equal(same[:size], same[size:2*size]) || bytes.Equal(same[size:2*size], same[2*size:]) {
			t.Errorf("%d: pieces are not told apart: %x", bits, same)
		}
		other := make([]byte, 3*size)
		other[size] = 1
		b, _ := shred.Diffuse(bits, other)
		if !bytes.Equal(b[:size], same[:size]) || bytes.Equal(b[size:2*size], same[size:2*size]) || !bytes.Equal(b[2*size:], same[2*size:]) {
			t.Errorf("%d: a piece hangs on others: %x", bits, b)
		}
	}
}

// P4.2: the errors, the digest's first.
func TestDiffuseErrors(t *testing.T) {
	long := make([]byte, 5000)
	for _, bits := range wrongHashes {
		for _, n := range []int{0, 1, 1024, 1025, 5000} {
			if b, e := shred.Diffuse(bits, long[:n]); len(b) != 0 || e != api.ErrHash {
				t.Errorf("Diffuse(%d) of %d bytes: %d bytes, error %d", bits, n, len(b), e)
			}
		}
	}
	for _, bits := range hashes {
		for _, n := range []int{1025, 1026, 5000} {
			if b, e := shred.Diffuse(bits, long[:n]); len(b) != 0 || e != api.ErrLong {
				t.Errorf("Diffuse(%d) of %d bytes: %d bytes, error %d", bits, n, len(b), e)
			}
		}
	}
}

// P4.3, P4.4, P4.7: the material, and the secret of it.
func TestSplitAndMerge(t *testing.T) {
	for _, bits := range hashes {
		for _, size := range secretSizes(bits) {
			for _, stripes := range []int{1, 2, 3, 7} {
				secret, random := some(10, size), some(11, size*(stripes-1))
				m := mustSplit(t, bits, secret, stripes, random)
				if !bytes.Equal(m, modelSplit(bits, secret, random)) {
					t.Fatalf("Split(%d) of %d bytes, %d stripes is another", bits, size, stripes)
				}
				if s := mustMerge(t, bits, m, stripes); !bytes.Equal(s, secret) {
					t.Fatalf("Merge(%d) of %d bytes, %d stripes is another", bits, size, stripes)
				}
			}
		}
	}
}

// P4.3, P4.4: MaxStripes stripes, of 1 byte and of MaxSecret bytes.
func TestMostStripes(t *testing.T) {
	t.Parallel()
	for _, bits := range hashes {
		for _, size := range []int{1, 32, api.MaxSecret} {
			secret, random := some(20, size), some(21, size*(api.MaxStripes-1))
			m := mustSplit(t, bits, secret, api.MaxStripes, random)
			if !bytes.Equal(m, modelSplit(bits, secret, random)) {
				t.Errorf("Split(%d) of %d bytes is another", bits, size)
			}
			if s := mustMerge(t, bits, m, api.MaxStripes); !bytes.Equal(s, secret) {
				t.Errorf("Merge(%d) of %d bytes is another", bits, size)
			}
		}
	}
}

// splitError tells P4.3's errors in the order in which it names them.
func splitError(bits, secret, stripes, random int) api.Errno {
	switch {
	case !slices.Contains(hashes, bits):
		return api.ErrHash
	case secret == 0:
		return api.ErrShort
	case secret > 1024:
		return api.ErrLong
	case stripes < 1 || stripes > 4000:
		return api.ErrStripes
	case random != secret*(stripes-1):
		return api.ErrMaterial
	}
	return api.OK
}

// P4.3: every error by itself and with those that are named behind it.
func TestSplitErrors(t *testing.T) {
	data := make([]byte, 1024*4001)
	for _, bits := range append([]int{256, 512}, wrongHashes...) {
		for _, size := range []int{0, 1, 5, 1024, 1025, 3000} {
			for _, stripes := range []int{math.MinInt, -1, 0, 1, 2, 9, 4000, 4001, math.MaxInt} {
				lengths := []int{0, 1, size, 100}
				if stripes >= 1 && stripes <= 4001 {
					need := size * (stripes - 1)
					lengths = append(lengths, need-size, need-1, need, need+1, need+size)
				}
				for _, n := range lengths {
					if n < 0 || n > len(data) {
						continue
					}
					want := splitError(bits, size, stripes, n)
					m, e := shred.Split(bits, data[:size], stripes, data[:n])
					if e != want || e != api.OK && len(m) != 0 || e == api.OK && len(m) != size*stripes {
						t.Fatalf("Split(%d) of %d bytes, %d stripes, %d random bytes: %d bytes, error %d, not %d", bits, size, stripes, n, len(m), e, want)
					}
				}
			}
		}
	}
}

// mergeError tells P4.4's errors in the order in which it names them.
func mergeError(bits, material, stripes int) api.Errno {
	switch {
	case !slices.Contains(hashes, bits):
		return api.ErrHash
	case stripes < 1 || stripes > 4000:
		return api.ErrStripes
	case material == 0 || material%stripes != 0 || material/stripes > 1024:
		return api.ErrMaterial
	}
	return api.OK
}

// P4.4: every error by itself and with those that are named behind it.
func TestMergeErrors(t *testing.T) {
	data := make([]byte, 1025*4000)
	for _, bits := range append([]int{256, 512}, wrongHashes...) {
		for _, stripes := range []int{math.MinInt, -1, 0, 1, 2, 3, 9, 3999, 4000, 4001, math.MaxInt} {
			lengths := []int{0, 1, 2, 7, 1024, 1025, 2048, 2049, 4001, len(data)}
			if stripes >= 1 && stripes <= 4001 {
				lengths = append(lengths, stripes-1, stripes, stripes+1, 5*stripes-1, 5*stripes, 1024*stripes-1, 1024*stripes, 1024*stripes+1, 1025*stripes)
			}
			for _, n := range lengths {
				if n > len(data) {
					continue
				}
				want := mergeError(bits, n, stripes)
				s, e := shred.Merge(bits, data[:n], stripes)
				if e != want || e != api.OK && len(s) != 0 || e == api.OK && len(s)*stripes != n {
					t.Fatalf("Merge(%d) of %d bytes, %d stripes: %d bytes, error %d, not %d", bits, n, stripes, len(s), e, want)
				}
			}
		}
	}
}

// P4.7: any material is the split of the secret that it gives.
func TestAnyMaterial(t *testing.T) {
	for _, bits := range hashes {
		for _, size := range secretSizes(bits) {
			for _, stripes := range []int{1, 2, 5} {
				material := some(30, size*stripes)
				secret := mustMerge(t, bits, material, stripes)
				if m := mustSplit(t, bits, secret, stripes, material[:size*(stripes-1)]); !bytes.Equal(m, material) {
					t.Errorf("%d: %d bytes, %d stripes: another material", bits, size, stripes)
				}
			}
		}
	}
}

// P4.8: a mask of the last stripe is one of the secret.
func TestMask(t *testing.T) {
	for _, bits := range hashes {
		for _, size := range secretSizes(bits) {
			for _, stripes := range []int{1, 2, 5} {
				material, mask := some(40, size*stripes), some(41, size)
				secret := mustMerge(t, bits, material, stripes)
				masked := bytes.Clone(material)
				copy(masked[size*(stripes-1):], sum(material[size*(stripes-1):], mask))
				if s := mustMerge(t, bits, masked, stripes); !bytes.Equal(s, sum(secret, mask)) {
					t.Errorf("%d: %d bytes, %d stripes: another secret", bits, size, stripes)
				}
			}
		}
	}
}

// P4.8: with one stripe the material is the secret.
func TestOneStripe(t *testing.T) {
	for _, bits := range hashes {
		for _, size := range secretSizes(bits) {
			secret := some(50, size)
			if m := mustSplit(t, bits, secret, 1, nil); !bytes.Equal(m, secret) {
				t.Errorf("Split(%d): %x", bits, m)
			}
			if s := mustMerge(t, bits, secret, 1); !bytes.Equal(s, secret) {
				t.Errorf("Merge(%d): %x", bits, s)
			}
		}
	}
}

// P4.9: to the stripes ahead of it each last stripe gives another secret, so that all are possible.
func TestEveryLastStripe(t *testing.T) {
	for _, bits := range hashes {
		seen := map[byte]int{}
		for last := range 256 {
			s := mustMerge(t, bits, []byte{17, 99, byte(last)}, 3)
			seen[s[0]]++
		}
		if len(seen) != 256 {
			t.Errorf("%d: %d secrets", bits, len(seen))
		}
	}
}

// A bit that is lost anywhere loses the secret: of long stripes no other one gives the same.
func TestEveryBitCounts(t *testing.T) {
	material := some(60, 4*33)
	secret := mustMerge(t, 256, material, 4)
	for bit := range 8 * len(material) {
		material[bit/8] ^= 1 << (bit % 8)
		if s := mustMerge(t, 256, material, 4); bytes.Equal(s, secret) {
			t.Errorf("bit %d makes no difference", bit)
		}
		material[bit/8] ^= 1 << (bit % 8)
	}
}

// The chapter's examples.
func TestExamples(t *testing.T) {
	for _, c := range []struct {
		size, stripes, n int
		e                api.Errno
	}{{32, 4000, 127968, api.OK}, {0, 1, 0, api.ErrShort}, {1025, 0, 0, api.ErrLong}, {1, 0, 0, api.ErrStripes}, {5, 1, 0, api.OK}} {
		if n, e := shred.Random(c.size, c.stripes); n != c.n || e != c.e {
			t.Errorf("1: Random(%d, %d): %d, error %d", c.size, c.stripes, n, e)
		}
	}
	want := unhex(t, "6DB65FD5 9FD356F6 72914057 1B5BCD6B B3B83492 A16E1BF0 A3884442 FC3C8A0E 06")
	for _, n := range []int{32, 33} {
		if b, e := shred.Diffuse(256, make([]byte, n)); e != api.OK || !bytes.Equal(b, want[:n]) {
			t.Errorf("2: Diffuse of %d zeros: %x, error %d", n, b, e)
		}
	}
	secret := []byte{1, 2, 3}
	if m, e := shred.Split(256, secret, 1, nil); e != api.OK || !bytes.Equal(m, secret) {
		t.Errorf("3: %x, error %d", m, e)
	}
	if m, e := shred.Split(256, secret, 2, []byte{9, 9}); len(m) != 0 || e != api.ErrMaterial {
		t.Errorf("3: %x, error %d", m, e)
	}
	if m, e := shred.Split(1, secret, 0, nil); len(m) != 0 || e != api.ErrHash {
		t.Errorf("3: %x, error %d", m, e)
	}
	for _, c := range []struct {
		n, stripes int
		e          api.Errno
	}{{7, 2, api.ErrMaterial}, {0, 2, api.ErrMaterial}, {7, 4001, api.ErrStripes}, {0, 4001, api.ErrStripes}} {
		if s, e := shred.Merge(256, make([]byte, c.n), c.stripes); len(s) != 0 || e != c.e {
			t.Errorf("4: Merge of %d bytes, %d stripes: %x, error %d", c.n, c.stripes, s, e)
		}
	}
}

// The layer leans on digest and api.
func TestImports(t *testing.T) {
	files, err := filepath.Glob("*.go")
	if err != nil || len(files) == 0 {
		t.Fatal(files, err)
	}
	for _, name := range files {
		if strings.HasSuffix(name, "_test.go") {
			continue
		}
		f, err := parser.ParseFile(token.NewFileSet(), name, nil, parser.ImportsOnly)
		if err != nil {
			t.Fatal(err)
		}
		for _, i := range f.Imports {
			path, _ := strconv.Unquote(i.Path.Value)
			if !slices.Contains([]string{"coffer/api", "coffer/digest", "iter"}, path) {
				t.Errorf("%s imports %s", name, path)
			}
		}
	}
}
