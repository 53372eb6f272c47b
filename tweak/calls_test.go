package tweak_test

import (
	"bytes"
	"encoding/hex"
	"go/parser"
	"go/token"
	"path/filepath"
	"slices"
	"strconv"
	"strings"
	"sync"
	"testing"

	"coffer/api"
	"coffer/tweak"
)

// checkRefused makes every call that a cipher without a key refuses, with numbers of bytes that may be and that may not: the first error is told.
func checkRefused(t *testing.T, c *tweak.Cipher, want api.Errno) {
	t.Helper()
	for _, n := range []int{0, 15, 16, 17, 512, 4097} {
		if got, e := c.IV(1, n); got != nil || e != want {
			t.Errorf("IV(1, %d): %x, error %d, not %d", n, got, e, want)
		}
		if got, e := c.Seal(1, make([]byte, n)); got != nil || e != want {
			t.Errorf("Seal of %d bytes: error %d, not %d", n, e, want)
		}
		if got, e := c.Open(1, make([]byte, n)); got != nil || e != want {
			t.Errorf("Open of %d bytes: error %d, not %d", n, e, want)
		}
	}
	if _, e := c.IV(1, -5); e != want {
		t.Errorf("IV(1, -5): error %d, not %d", e, want)
	}
	if e := c.Wipe(); e != want {
		t.Errorf("Wipe: error %d, not %d", e, want)
	}
}

// P3.4: of a cipher that New did not make.
func TestNotMade(t *testing.T) {
	for _, c := range []*tweak.Cipher{nil, {}, new(tweak.Cipher)} {
		for range 2 {
			checkRefused(t, c, api.ErrNil)
			if c.Spec() != "" || c.Size() != 0 {
				t.Errorf("%q, %d", c.Spec(), c.Size())
			}
		}
	}
}

// P3.4: the name and the number of bytes stay behind Wipe; all else is refused. Another cipher of the same key goes on.
func TestWipe(t *testing.T) {
	each(t, anyName, func(t *testing.T, spec string) {
		key := keyOf(t, spec, 410)
		c, other := mustCipher(t, spec, key), mustCipher(t, spec, key)
		checkSector(t, c, key, 2, some(411, 64))
		if e := c.Wipe(); e != api.OK {
			t.Fatalf("%s: Wipe: error %d", spec, e)
		}
		for range 2 {
			checkRefused(t, c, api.ErrWiped)
			if c.Spec() != spec || c.Size() != len(key) {
				t.Errorf("%s wiped: %q, %d", spec, c.Spec(), c.Size())
			}
		}
		checkSector(t, other, key, 2, some(411, 64))
	})
}

// P3.4: many goroutines use one cipher at a time.
func TestTogether(t *testing.T) {
	for _, spec := range tweak.Specs() {
		key := keyOf(t, spec, 420)
		c := mustCipher(t, spec, key)
		plain := some(421, 128)
		sealed, iv := modelSeal(spec, key, 1<<60, plain), modelIV(spec, key, 1<<60, 128)
		var all sync.WaitGroup
		for range 4 {
			all.Go(func() {
				for range 5 {
					a, e := c.Seal(1<<60, plain)
					b, f := c.Open(1<<60, sealed)
					d, g := c.IV(1<<60, 128)
					if e != api.OK || f != api.OK || g != api.OK || !bytes.Equal(a, sealed) || !bytes.Equal(b, plain) || !bytes.Equal(d, iv) || c.Spec() != spec || c.Size() != len(key) {
						t.Errorf("%s: errors %d, %d, %d", spec, e, f, g)
					}
				}
			})
		}
		all.Wait()
	}
}

// P3.4: no call changes a cipher: what it answers does not hang on the calls ahead.
func TestCallsLeaveNothing(t *testing.T) {
	each(t, anyName, func(t *testing.T, spec string) {
		key := keyOf(t, spec, 430)
		c := mustCipher(t, spec, key)
		for _, s := range []uint64{5, 1 << 40, 5, 0, 5} {
			for _, n := range []int{512, 16, 64, 512} {
				checkSector(t, c, key, s, some(431, n))
				c.Seal(s, make([]byte, 5))
				c.IV(s+1, n)
			}
		}
	})
}

// P3.17: a block of ecb, xts, lrw by itself.
func TestBlocksAlone(t *testing.T) {
	alone := func(spec string) bool { return has("-ecb")(spec) || has("-xts-")(spec) || has("-lrw-")(spec) }
	each(t, alone, func(t *testing.T, spec string) {
		c := mustCipher(t, spec, keyOf(t, spec, 440))
		plain, other := some(441, 96), some(442, 96)
		for _, do := range []func(uint64, []byte) ([]byte, api.Errno){c.Seal, c.Open} {
			a, _ := do(8, plain)
			for j := range 6 {
				mixed := bytes.Clone(other)
				copy(mixed[16*j:16*j+16], plain[16*j:16*j+16])
				b, _ := do(8, mixed)
				if !bytes.Equal(a[16*j:16*j+16], b[16*j:16*j+16]) {
					t.Errorf("%s: block %d hangs on others", spec, j)
				}
			}
		}
	})
}

// P3.17: bits of a sealed block of cbc that are turned.
func TestTurnedBits(t *testing.T) {
	chain := func(spec string) bool {
		return has("-cbc-")(spec) && !has("elephant")(spec) && !has("tcw")(spec)
	}
	each(t, chain, func(t *testing.T, spec string) {
		c := mustCipher(t, spec, keyOf(t, spec, 450))
		plain := some(451, 96)
		sealed, _ := c.Seal(9, plain)
		for j := range 6 {
			turn := some(452+j, 16)
			spoilt := bytes.Clone(sealed)
			copy(spoilt[16*j:], sum(sealed[16*j:16*j+16], turn))
			got, _ := c.Open(9, spoilt)
			want := bytes.Clone(plain)
			copy(want[16*j:16*j+16], got[16*j:16*j+16])
			if j < 5 {
				copy(want[16*j+16:], sum(plain[16*j+16:16*j+32], turn))
			}
			if !bytes.Equal(got, want) || bytes.Equal(got[16*j:16*j+16], plain[16*j:16*j+16]) {
				t.Errorf("%s: block %d turned: %x", spec, j, got)
			}
		}
	})
}

// P3.18: lrw's blocks are one behind the other.
func TestBlocksInARow(t *testing.T) {
	each(t, has("-lrw-"), func(t *testing.T, spec string) {
		c := mustCipher(t, spec, keyOf(t, spec, 460))
		for _, n := range []int{16, 32, 80, 512, 4096} {
			count := uint64(n / 16)
			plain := some(461, n)
			last := uint64(1<<64-1) / count
			for _, s := range []uint64{0, 1, 77, 1<<32 + 3, last - 1} {
				a, _ := c.Seal(s, plain)
				for j := range count {
					b, _ := c.Seal(s*count+j, plain[16*j:16*j+16])
					if !bytes.Equal(a[16*j:16*j+16], b) {
						t.Fatalf("%s, %d bytes, sector %d: block %d is another", spec, n, s, j)
					}
				}
			}
		}
	})
}

// The chapter's examples.
func TestExamples(t *testing.T) {
	for spec, want := range map[string]int{"aes192-cbc-tcw": 56, "aes256-xts-plain64": 64, "null": 0} {
		if n, e := tweak.KeySize(spec); n != want || e != api.OK {
			t.Errorf("1: KeySize(%s): %d, error %d", spec, n, e)
		}
	}
	for _, spec := range []string{"aes-ecb", "AES128-ecb", ""} {
		if n, e := tweak.KeySize(spec); n != 0 || e != api.ErrTweakSpec {
			t.Errorf("1: KeySize(%q): %d, error %d", spec, n, e)
		}
	}
	for _, v := range []struct {
		spec string
		s    uint64
		n    int
		want string
	}{
		{"aes128-cbc-benbi", 3, 512, "00000000000000000000000000000061"},
		{"aes128-cbc-benbi", 3, 4096, "00000000000000000000000000000301"},
		{"aes128-cbc-plain", 1<<32 + 5, 16, "05000000000000000000000000000000"},
		{"aes128-cbc-plain64", 1<<32 + 5, 16, "05000000010000000000000000000000"},
		{"aes128-cbc-plain64be", 1<<32 + 5, 16, "00000000000000000000000100000005"},
	} {
		if got, e := mustCipher(t, v.spec, make([]byte, 16)).IV(v.s, v.n); e != api.OK || hex.EncodeToString(got) != v.want {
			t.Errorf("4: %s IV(%d, %d): %x, error %d", v.spec, v.s, v.n, got, e)
		}
	}
	if got := tweak.Double(api.Block{15: 0x80}); got != (api.Block{0: 0x87}) {
		t.Errorf("5: %x", got)
	}
	if got := tweak.Double(api.Block{1}); got != (api.Block{2}) {
		t.Errorf("5: %x", got)
	}
	a := api.Block(some(470, 16))
	if got := tweak.Times(a, api.Block{15: 1}); got != a {
		t.Errorf("5: %x", got)
	}
	if got := tweak.Times(api.Block{0: 0x80}, api.Block{15: 2}); got != (api.Block{15: 0x87}) {
		t.Errorf("5: %x", got)
	}
	got := tweak.Polyval(api.Block(unhex("25629347589242761d31f826ba4b757b")), api.Block(unhex("4f4f95668c83dfb6401762bb2d01a262")), api.Block(unhex("d1a24ddd2721d006bbe45f20d3c9f362")))
	if got != api.Block(unhex("f7a3b47b846119fae5b7866cf5e5b77e")) {
		t.Errorf("6: %x", got)
	}
}

// The layer leans on digest, rijndael and api, and on no package of the library's crypto.
func TestImports(t *testing.T) {
	files, err := filepath.Glob("*.go")
	if err != nil || len(files) == 0 {
		t.Fatal(files, err)
	}
	for _, name := range files {
		if strings.HasSuffix(name, "_test.go") {
			continue
		}
		f, err := parser.ParseFile(token.NewFileSet(), name, nil, parser.ImportsOnly)
		if err != nil {
			t.Fatal(err)
		}
		for _, i := range f.Imports {
			path, _ := strconv.Unquote(i.Path.Value)
			if !slices.Contains([]string{"coffer/api", "coffer/digest", "coffer/rijndael", "math", "math/bits", "slices", "strconv"}, path) {
				t.Errorf("%s imports %s", name, path)
			}
		}
	}
}
