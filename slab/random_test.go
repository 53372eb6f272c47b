package slab_test

import (
	"bytes"
	"fmt"
	"math"
	"math/rand"
	"testing"

	"coffer/api"
	"coffer/slab"
)

// anyPlan gives a plan in which an operation often has several glitches.
func anyPlan(r *rand.Rand, unit int, count uint64) []api.Glitch {
	var plan []api.Glitch
	for range r.Intn(30) {
		g := api.Glitch{Op: 1 + r.Int63n(20), Kind: 1 + r.Intn(6), N: r.Intn(6), At: r.Uint64()}
		if g.Kind == api.GlitchTurn {
			g.At %= count
			g.N = r.Intn(8 * unit)
		}
		plan = append(plan, g)
	}
	return plan
}

// anySpan gives a place and bytes, some of which are refused. Sectors of zeros are among them.
func anySpan(r *rand.Rand, unit int, count uint64) (uint64, []byte) {
	at := uint64(r.Int63n(int64(count) + 2))
	if r.Intn(20) == 0 {
		at = math.MaxUint64 - uint64(r.Intn(3))
	}
	n := unit * (1 + r.Intn(3))
	if r.Intn(15) == 0 {
		n = r.Intn(2 * unit)
	}
	b := make([]byte, n)
	if r.Intn(4) > 0 {
		r.Read(b)
	}
	return at, b
}

func anyKeep(r *rand.Rand, n int) []bool {
	keep := make([]bool, r.Intn(n+3))
	for i := range keep {
		keep[i] = r.Intn(2) == 0
	}
	return keep
}

// anyCall makes one call of a slab and of the model, and tells both answers.
func anyCall(t *testing.T, r *rand.Rand, s *slab.Slab, m *model) (name string, got, want api.Errno) {
	at, b := anySpan(r, m.unit, uint64(len(m.disk)))
	switch r.Intn(12) {
	case 0, 1, 2:
		other := bytes.Clone(b)
		got, want = s.Read(at, b), m.read(at, other)
		if !bytes.Equal(b, other) {
			t.Fatalf("Read(%d, %d bytes) reads other bytes", at, len(b))
		}
		return fmt.Sprintf("Read(%d, %d bytes)", at, len(b)), got, want
	case 3, 4, 5, 6:
		return fmt.Sprintf("Write(%d, %d bytes)", at, len(b)), s.Write(at, b), m.write(at, b)
	case 7:
		return "Flush", s.Flush(), m.flush()
	case 8:
		m.dark = true
		return "Off", s.Off(), api.OK
	case 9, 10:
		keep := anyKeep(r, len(m.log))
		got = s.Restart(keep...)
		m.restart(keep)
		return fmt.Sprintf("Restart(%v)", keep), got, api.OK
	}
	switch {
	case at >= uint64(len(m.disk)):
		want = api.ErrSector
	case len(b) != m.unit:
		want = api.ErrShort
	default:
		m.disk[at] = string(b)
	}
	return fmt.Sprintf("Poke(%d, %d bytes)", at, len(b)), s.Poke(at, b), want
}

// P5.1 to P5.8: any calls, of slabs of every unit and with any plans; behind each call all that can be asked is what the model tells. Now and then the calls go on with a copy; in the end those left behind are as they were.
func TestAnyCalls(t *testing.T) {
	for seed := range int64(1500) {
		r := rand.New(rand.NewSource(seed))
		unit, count := units[r.Intn(4)], uint64(1+r.Intn(5))
		plan := anyPlan(r, unit, count)
		s, m := fresh(t, unit, count, plan...), newModel(unit, count, plan...)
		var left []*slab.Slab
		var models []*model
		for step := range 40 {
			name, got, want := anyCall(t, r, s, m)
			name = fmt.Sprintf("seed %d, step %d: %s", seed, step, name)
			if got != want {
				t.Fatalf("%s: error %d, not %d", name, got, want)
			}
			m.check(t, name, s)
			if r.Intn(10) == 0 {
				left, models = append(left, s), append(models, m)
				s, m = s.Copy(), m.copy()
				m.check(t, name+", copied", s)
			}
		}
		for i, s := range left {
			models[i].check(t, fmt.Sprintf("seed %d, left behind %d", seed, i), s)
		}
	}
}

// P5.8: a slab and its copy live on, each with its own calls, the plan's glitches among them.
func TestTwoLives(t *testing.T) {
	for seed := range int64(300) {
		r := rand.New(rand.NewSource(seed))
		unit, count := units[r.Intn(4)], uint64(1+r.Intn(5))
		plan := anyPlan(r, unit, count)
		slabs := []*slab.Slab{fresh(t, unit, count, plan...)}
		models := []*model{newModel(unit, count, plan...)}
		for step := range 60 {
			i := r.Intn(len(slabs))
			if step%15 == 7 {
				slabs, models = append(slabs, slabs[i].Copy()), append(models, models[i].copy())
			}
			name, got, want := anyCall(t, r, slabs[i], models[i])
			if got != want {
				t.Fatalf("seed %d, step %d: %s: error %d, not %d", seed, step, name, got, want)
			}
			for j := range slabs {
				models[j].check(t, fmt.Sprintf("seed %d, step %d: %s of %d: slab %d", seed, step, name, i, j), slabs[j])
			}
		}
	}
}
