package tweak_test

import (
	"slices"
	"strings"
	"testing"

	"coffer/api"
	"coffer/tweak"
)

// rows: the chapter's table, with the bytes of the key for b = 16, 24, 32.
var rows = []struct {
	mode string
	size [3]int
}{
	{"ecb", [3]int{16, 24, 32}},
	{"cbc-null", [3]int{16, 24, 32}},
	{"cbc-plain", [3]int{16, 24, 32}},
	{"cbc-plain64", [3]int{16, 24, 32}},
	{"cbc-plain64be", [3]int{16, 24, 32}},
	{"cbc-benbi", [3]int{16, 24, 32}},
	{"cbc-essiv:sha256", [3]int{16, 24, 32}},
	{"cbc-eboiv", [3]int{16, 24, 32}},
	{"cbc-elephant", [3]int{32, 48, 64}},
	{"cbc-tcw", [3]int{48, 56, 64}},
	{"xts-plain", [3]int{32, 48, 64}},
	{"xts-plain64", [3]int{32, 48, 64}},
	{"xts-plain64be", [3]int{32, 48, 64}},
	{"xts-essiv:sha256", [3]int{32, 48, 64}},
	{"lrw-benbi", [3]int{32, 40, 48}},
	{"hctr2-plain", [3]int{16, 24, 32}},
	{"hctr2-plain64", [3]int{16, 24, 32}},
}

// wantNames gives all names with the bytes of their keys, in the chapter's order.
func wantNames() (names []string, sizes []int) {
	names, sizes = []string{"null"}, []int{0}
	for i, head := range []string{"aes128-", "aes192-", "aes256-"} {
		for _, r := range rows {
			names, sizes = append(names, head+r.mode), append(sizes, r.size[i])
		}
	}
	return names, sizes
}

// P3.1: fifty-two names, in the chapter's order, as a new list each time.
func TestSpecs(t *testing.T) {
	want, _ := wantNames()
	got := tweak.Specs()
	if len(got) != 52 || !slices.Equal(got, want) {
		t.Fatalf("%q", got)
	}
	clear(got[:cap(got)])
	if !slices.Equal(tweak.Specs(), want) {
		t.Error("a list that was answered is kept")
	}
}

// P3.2, P3.3, P3.4: the bytes of each name's key; a key of one more or less, or of none, is refused.
func TestKeySizes(t *testing.T) {
	names, sizes := wantNames()
	for i, spec := range names {
		if n, e := tweak.KeySize(spec); n != sizes[i] || e != api.OK {
			t.Errorf("KeySize(%s): %d, error %d", spec, n, e)
		}
		for n := range 130 {
			c, e := tweak.New(spec, make([]byte, n))
			if n != sizes[i] {
				if c != nil || e != api.ErrTweakKey {
					t.Errorf("%s with %d bytes: %v, error %d", spec, n, c != nil, e)
				}
			} else if c == nil || e != api.OK || c.Spec() != spec || c.Size() != n {
				t.Errorf("%s with %d bytes: error %d, %q, %d", spec, n, e, c.Spec(), c.Size())
			}
		}
	}
	if c, e := tweak.New("null", nil); c == nil || e != api.OK || c.Spec() != "null" || c.Size() != 0 {
		t.Errorf("null with no list: error %d", e)
	}
	if c, e := tweak.New("aes256-ecb", nil); c != nil || e != api.ErrTweakKey {
		t.Errorf("no list as a key: error %d", e)
	}
}

// P3.2, P3.3: a name with one byte more, less or other is no name (but where it is another one); it is looked at ahead of the key.
func TestNoSuchNames(t *testing.T) {
	names, _ := wantNames()
	wrong := []string{"", "aes", "aes-ecb", "aes128", "aes128-", "aes128-null", "aes128-cbc", "aes128-cbc-", "aes128-xts", "aes128-xts-null", "aes128-xts-benbi",
		"aes128-xts-eboiv", "aes128-lrw", "aes128-lrw-plain64", "aes128-hctr2", "aes128-hctr2-plain64be", "aes128-hctr2-essiv:sha256", "aes128-cbc-essiv", "aes128-cbc-essiv:sha512",
		"aes512-ecb", "aes64-ecb", "AES128-ecb", "aes128-ECB", "aes128_ecb", "aes128-ecb-null", "Null", "NULL", "null-ecb", "-ecb", "ecb", "xts-plain64", "aes256-null", strings.Repeat("aes128-", 1000)}
	for _, name := range names {
		for i := range len(name) {
			wrong = append(wrong, name[:i], name[:i]+name[i+1:])
			for _, b := range []string{"-", "x", "6", "\x00", "\xff"} {
				wrong = append(wrong, name[:i]+b+name[i:], name[:i]+b+name[i+1:])
			}
			wrong = append(wrong, name[:i]+string([]byte{name[i] ^ 32})+name[i+1:])
		}
		wrong = append(wrong, name+" ", name+"\x00", name+"-", name+"64", strings.ToUpper(name))
	}
	tried := 0
	for _, name := range wrong {
		if slices.Contains(names, name) {
			continue
		}
		tried++
		if n, e := tweak.KeySize(name); n != 0 || e != api.ErrTweakSpec {
			t.Errorf("KeySize(%q): %d, error %d", name, n, e)
		}
		for _, n := range []int{0, 15, 16, 32} {
			if c, e := tweak.New(name, make([]byte, n)); c != nil || e != api.ErrTweakSpec {
				t.Errorf("New(%q, %d bytes): error %d", name, n, e)
			}
		}
	}
	if tried < 5000 {
		t.Errorf("only %d wrong names", tried)
	}
}

// P3.3: no key is refused for what it holds.
func TestAnyKey(t *testing.T) {
	for _, spec := range tweak.Specs() {
		n, _ := tweak.KeySize(spec)
		half := some(3, n/2+1)
		alike := append(slices.Clone(half[:n/2]), half[:n-n/2]...)
		for _, key := range [][]byte{make([]byte, n), slices.Repeat([]byte{0xff}, n), alike} {
			c := mustCipher(t, spec, key)
			checkSector(t, c, key, 7, some(4, 48))
		}
	}
}

// P3.3: the key is copied, and stays as it was.
func TestKeyCopied(t *testing.T) {
	for _, spec := range tweak.Specs() {
		key := append(keyOf(t, spec, 5), 0xaa, 0xbb)
		n := len(key) - 2
		before := slices.Clone(key)
		c := mustCipher(t, spec, key[:n])
		checkSector(t, c, before[:n], 7, some(6, 64))
		if !slices.Equal(key, before) {
			t.Errorf("%s: the key has been changed", spec)
		}
		clear(key)
		checkSector(t, c, before[:n], 8, some(6, 64))
		copy(key, before)
		if c.Wipe() != api.OK || !slices.Equal(key, before) {
			t.Errorf("%s: the key that was handed in is wiped", spec)
		}
	}
}
