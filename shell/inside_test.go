package shell

import (
	"slices"
	"strings"
	"testing"

	"coffer/api"
	"coffer/slab"
	"coffer/spring"
	"coffer/volume"
)

// An iterator ends where whoever ranges over it leaves it.
func TestLeftEarly(t *testing.T) {
	r := reader{line: "a b c=1 \x01"}
	for number := range r.fields() {
		if number == 1 {
			break
		}
	}
	if r.at != 3 {
		t.Errorf("it went on up to %d", r.at)
	}
	h := newShelf(stays[int])
	h.put("b", 2)
	h.put("a", 1)
	for name, n := range h.all() {
		if name != "a" || n != 1 {
			t.Errorf("%s %d", name, n)
		}
		break
	}
}

// What is gone through comes in the order of its names, without what is gone.
func TestShelfOrder(t *testing.T) {
	h := newShelf(func(n int) bool { return n == 0 })
	for i, name := range []string{"z", "b", "a_", "a", "a1", "c"} {
		h.put(name, i)
	}
	var names []string
	for name := range h.all() {
		names = append(names, name)
	}
	if !slices.Equal(names, []string{"a", "a1", "a_", "b", "c"}) {
		t.Error(names)
	}
	if !h.has("z") || h.taken("z") || !h.taken("a") || h.has("y") || h.taken("y") {
		t.Error("what is there")
	}
}

func TestShelfRoom(t *testing.T) {
	h := newShelf(stays[int])
	for i := range api.MaxShellThings {
		if h.full("x") {
			t.Errorf("full with %d", i)
		}
		h.put(string(rune('a'+i)), i)
	}
	if !h.full("x") || h.full("a") {
		t.Error("full")
	}
}

// Of several volumes over a slab that of the least name is told. No script makes two.
func TestHolder(t *testing.T) {
	d, _ := slab.New(512, 200)
	s, _ := spring.New(256, 99, make([]byte, 16), nil, nil)
	o := api.SlotOpts{Priority: 1, Hash: 256, Turns: 1, Cipher: "aes256-xts-plain64", Stripes: 2}
	if e := volume.Format(d, s, api.Format{Head: 16384, Keys: 16384, Cipher: "null", DigestTurns: 1, Slot: o}, nil); e != api.OK {
		t.Fatal(e)
	}
	sh := New()
	for _, name := range []string{"c", "b", "a", "d", "aa"} {
		v, e := volume.Open(d, nil, 0, 1)
		if e != api.OK {
			t.Fatal(e)
		}
		sh.volumes.put(name, mount{Volume: v, on: "d"})
	}
	for _, want := range []string{"a", "aa", "b", "c", "d", ""} {
		if got := sh.holder("d"); got != want {
			t.Errorf("%q, want %q", got, want)
		}
		if sh.holder("e") != "" {
			t.Error("another slab")
		}
		if want != "" {
			sh.volumes.get(want).Close()
		}
	}
}

// No line is long enough for so many bits.
func TestManyBits(t *testing.T) {
	read := bits(mostBits)
	for n, want := range map[int]bool{65535: true, 65536: true, 65537: false} {
		v, is := read(strings.Repeat("1", n))
		if is != want || is && (len(v.bits) != n || !v.bits[n-1]) {
			t.Errorf("%d bits: %v", n, is)
		}
	}
}

// A call never panics, whatever goes wrong within.
func TestCaught(t *testing.T) {
	for want, play := range map[string]func() []string{
		"ok":          func() []string { return ok() },
		"ok over 3":   func() []string { check(api.OK); return ok("over", "3") },
		"error 6":     func() []string { panic("other") },
		"error 7":     func() []string { check(api.ErrMissing); return ok() },
		"error 7 a b": func() []string { refuse(api.ErrMissing, "a", "b"); return ok() },
	} {
		if got := caught(play); !slices.Equal(got, []string{want}) {
			t.Errorf("%q, want %s", got, want)
		}
	}
}
