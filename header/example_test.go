package header_test

import (
	"bytes"
	"strings"
	"testing"

	"coffer/api"
	"coffer/header"
	"coffer/slab"
)

func TestExample1(t *testing.T) {
	b, e := header.Pack(api.HeadCopy{Head: 16384, Seq: 1, Label: "v", UUID: "u", Salt: strings.Repeat("\x00", 64), Text: "{}"})
	if e != api.OK || len(b) != 16384 || !bytes.Equal(b[4096:4099], []byte{0x7b, 0x7d, 0}) {
		t.Errorf("error %d, %d bytes", e, len(b))
	}
}

// example2 gives the slab that example 3 goes on with.
func example2(t *testing.T, plan ...api.Glitch) (*slab.Slab, api.HeadCopy) {
	t.Helper()
	s, _ := slab.New(512, 80, plan...)
	f, e := header.Scan(s)
	expect(t, "Scan", e, api.OK)
	whys(t, "nothing there", f, api.ErrMagic, api.ErrHeader)
	c, e := header.Commit(s, api.HeadCopy{Head: 16384, Salt: strings.Repeat("\x00", 64)}, "{}")
	if e != api.OK || c.Seq != 1 {
		t.Errorf("Commit: %v, error %d", c, e)
	}
	f, e = header.Scan(s)
	expect(t, "Scan", e, api.OK)
	whys(t, "both good", f, api.OK, api.OK)
	return s, c
}

func TestExample2(t *testing.T) {
	s, _ := example2(t)
	for at := range uint64(32) {
		s.Poke(at, make([]byte, 512))
	}
	c, did, e := header.Load(s, always)
	if c.Seq != 1 || !did || e != api.OK {
		t.Errorf("Load: %v, %v, error %d", c, did, e)
	}
	f, _ := header.Scan(s)
	whys(t, "written anew", f, api.OK, api.OK)
}

func TestExample3(t *testing.T) {
	s, _ := example2(t)
	second := s.Ops() + 3 // a Flush, a write, a Flush
	for _, kept := range []bool{false, true} {
		s, c := example2(t, api.Glitch{Op: second, Kind: api.GlitchOff})
		_, e := header.Commit(s, c, "next")
		expect(t, "Commit", e, api.ErrOff)
		keep := make([]bool, len(s.Pending()))
		for i := range keep {
			keep[i] = kept
		}
		s.Restart(keep...)
		want := uint64(1)
		if kept {
			want = 2
		}
		got, did, e := header.Load(s, always)
		if got.Seq != want || did != kept || e != api.OK {
			t.Errorf("all kept %v: %v, %v, error %d", kept, got, did, e)
		}
	}
}
