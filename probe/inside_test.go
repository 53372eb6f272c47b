package probe

import (
	"testing"

	"coffer/api"
)

// The lines end where whoever ranges over them leaves off.
func TestLeftOff(t *testing.T) {
	s := api.Seen{Takes: 2, Fits: true, Areas: make([]api.SeenArea, 3)}
	all := Lines(s)
	for most := range all {
		var got int
		for line := range lines(s) {
			if line != all[got] {
				t.Errorf("line %d: %q, not %q", got, line, all[got])
			}
			if got++; got > most {
				break
			}
		}
		if got != most+1 {
			t.Errorf("%d lines, not %d", got, most+1)
		}
	}
}
