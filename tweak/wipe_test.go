package tweak

import (
	"strings"
	"testing"

	"coffer/api"
)

// P3.4: behind Wipe nothing of the key is kept: neither its bytes nor a schedule of any part of it.
func TestNothingIsKept(t *testing.T) {
	for _, spec := range Specs() {
		n, _ := KeySize(spec)
		key := []byte(strings.Repeat("k", n))
		c, _ := New(spec, key)
		kept, schedules := c.key, append(c.others, c.main)
		if want := schedulesOf(spec); len(schedules) != want {
			t.Errorf("%s: %d schedules, not %d", spec, len(schedules), want)
		}
		if e := c.Wipe(); e != api.OK {
			t.Errorf("%s: error %d", spec, e)
		}
		if strings.Contains(string(kept), "k") {
			t.Errorf("%s: bytes of the key are kept", spec)
		}
		for _, k := range schedules {
			if k.Wipe() == api.OK {
				t.Errorf("%s: a schedule is kept", spec)
			}
		}
		if c.first != nil || c.seal != nil || c.open != nil || c.main != nil || c.others != nil {
			t.Errorf("%s: what the schedules hang on is kept", spec)
		}
	}
}

// schedulesOf tells how many a cipher needs: one for the first part, which null has as nil.
func schedulesOf(spec string) int {
	n := 1
	for _, more := range []string{"xts", "elephant", "essiv"} {
		n += strings.Count(spec, more)
	}
	return n
}
