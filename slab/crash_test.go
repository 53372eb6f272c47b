package slab_test

import (
	"fmt"
	"math/rand"
	"slices"
	"strings"
	"testing"

	"coffer/api"
	"coffer/slab"
)

// P5.5: every choice of what is kept of seven writes, several of them to one sector, with lists that are shorter and longer than the log; with power and without.
func TestEveryKeep(t *testing.T) {
	for _, unit := range units {
		base := fresh(t, unit, 4)
		base.Write(0, full(unit, "abcd"))
		base.Flush()
		base.Write(1, full(unit, "A"))
		base.Write(0, full(unit, "BCD"))
		base.Write(1, full(unit, "\x00"))
		base.Write(3, full(unit, "E"))
		base.Write(1, full(unit, "F"))
		writes := []struct {
			at int
			c  byte
		}{{1, 'A'}, {0, 'B'}, {1, 'C'}, {2, 'D'}, {1, '.'}, {3, 'E'}, {1, 'F'}}
		for choice := range 1 << 7 {
			for _, length := range []int{0, 1, 3, 6, 7, 8, 40} {
				keep := make([]bool, length)
				want := []byte("abcd")
				for i := range length {
					keep[i] = i >= 7 || choice>>i&1 == 1
					if i < 7 && keep[i] {
						want[writes[i].at] = writes[i].c
					}
				}
				s := base.Copy()
				if choice%2 == 0 {
					s.Off()
				}
				expect(t, "Restart", s.Restart(keep...), api.OK)
				if got := show(t, s); got != string(want)+" "+string(want) || len(s.Pending()) != 0 || !s.Lit() || s.Ops() != 7 {
					t.Fatalf("unit %d, Restart(%v): %s, not %s; pending %d, lit %v", unit, keep, got, want, s.Pending(), s.Lit())
				}
			}
		}
	}
}

// P5.5: a second restart has nothing to keep; what is handed in stays as it was.
func TestRestartTwice(t *testing.T) {
	s := fresh(t, 512, 2)
	s.Write(0, full(512, "AB"))
	keep := []bool{false, true, true}
	expect(t, "Restart", s.Restart(keep...), api.OK)
	expect(t, "Restart", s.Restart(true, true), api.OK)
	if got := show(t, s); got != ".B .B" || !slices.Equal(keep, []bool{false, true, true}) {
		t.Errorf("%s, %v", got, keep)
	}
	expect(t, "Write", s.Write(0, full(512, "C")), api.OK)
	expect(t, "Restart", s.Restart(true), api.OK)
	if got := show(t, s); got != "CB CB" {
		t.Errorf("the first write behind a restart is number 0: %s", got)
	}
	expect(t, "Restart with power, of nothing", s.Restart(), api.OK)
	if !s.Lit() || s.Ops() != 2 {
		t.Errorf("lit %v, %d operations", s.Lit(), s.Ops())
	}
}

// history is what P5.10 lets a sector hold: what it held at the last flush, and what was written since.
type history struct {
	may [][]string
}

func newHistory(count int) *history {
	h := &history{}
	for range count {
		h.may = append(h.may, []string{"."})
	}
	return h
}

// written takes down the sectors of one write that came into the log.
func (h *history) written(at uint64, letters string) {
	for i, c := range letters {
		h.may[at+uint64(i)] = append(h.may[at+uint64(i)], string(c))
	}
}

func (h *history) flushed(shown string) {
	for i, c := range shown {
		h.may[i] = []string{string(c)}
	}
}

func (h *history) check(t *testing.T, name, shown string) {
	t.Helper()
	for i, c := range shown {
		if !slices.Contains(h.may[i], string(c)) {
			t.Fatalf("%s: sector %d holds %c, none of %v", name, i, c, h.may[i])
		}
	}
}

// harmless gives a plan without turned bits.
func harmless(r *rand.Rand) []api.Glitch {
	var plan []api.Glitch
	for range r.Intn(12) {
		plan = append(plan, api.Glitch{Op: 1 + r.Int63n(40), Kind: 1 + r.Intn(5), N: r.Intn(4)})
	}
	return plan
}

// P5.10: whatever was called, and whatever went wrong: behind a restart each sector holds what it held at the last flush that answered OK, or one of the writes since; of several that are kept the last one.
func TestBehindAnyRestart(t *testing.T) {
	const count = 4
	for seed := range int64(1000) {
		r := rand.New(rand.NewSource(seed))
		s := fresh(t, 512, count, harmless(r)...)
		h := newHistory(count)
		next := byte(0)
		for step := range 60 {
			name := fmt.Sprintf("seed %d, step %d", seed, step)
			switch r.Intn(8) {
			case 0, 1, 2, 3:
				next = (next + 5) % 200
				at := uint64(r.Intn(count))
				letters := string([]byte{'A' + next%26, 'a' + next%26, 'A' + (next+1)%26})[:min(1+r.Intn(3), count-int(at))]
				before := len(s.Pending())
				s.Write(at, full(512, letters))
				h.written(at, letters[:len(s.Pending())-before])
			case 4:
				shown, _, _ := strings.Cut(show(t, s), " ")
				if s.Flush() == api.OK {
					h.flushed(shown)
				}
			case 5:
				s.Read(0, make([]byte, 1024))
			case 6:
				s.Off()
			case 7:
				restartKnown(t, r, name, s, h)
			}
		}
	}
}

// restartKnown keeps some writes, and holds what stands there against the last one of each sector that was kept.
func restartKnown(t *testing.T, r *rand.Rand, name string, s *slab.Slab, h *history) {
	t.Helper()
	pending := s.Pending()
	_, rest, _ := strings.Cut(show(t, s), " ")
	keep := anyKeep(r, len(pending))
	last := []byte(rest)
	for i, at := range pending {
		if i < len(keep) && keep[i] {
			only := s.Copy()
			alone := make([]bool, i+1)
			alone[i] = true
			only.Restart(alone...)
			b, _ := only.Rest(at)
			last[at] = b[0]
		}
	}
	expect(t, name, s.Restart(keep...), api.OK)
	shown := show(t, s)
	if shown != string(last)+" "+string(last) {
		t.Fatalf("%s: Restart(%v) of writes to %d: %s, not %s", name, keep, pending, shown, last)
	}
	h.check(t, name, string(last))
}
