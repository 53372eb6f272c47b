package header_test

import (
	"bytes"
	"fmt"
	"math/rand"
	"slices"
	"testing"

	"coffer/api"
	"coffer/header"
	"coffer/slab"
)

// keepWays is how many ways keeping knows.
const keepWays = 10

// keeping says which of n writes a crash keeps.
func keeping(way, n int) []bool {
	r := rand.New(rand.NewSource(int64(way)))
	keep := make([]bool, n)
	for i := range keep {
		switch way {
		case 0: // nothing
		case 1:
			keep[i] = true
		case 2:
			keep[i] = i%2 == 0
		case 3:
			keep[i] = i%2 == 1
		case 4:
			keep[i] = i == 0
		case 5:
			keep[i] = i > 0
		case 6:
			keep[i] = i < n/2
		case 7:
			keep[i] = i >= n/2
		default:
			keep[i] = r.Intn(2) == 0
		}
	}
	return keep
}

// P8.10: the power is lost at each operation of a commit, with so many sectors of the write in the log, and all, nothing and some of the log kept: the old text is there whole, or the new one; Seq never falls; what was loaded once is not lost.
func TestCommitCrash(t *testing.T) {
	t.Parallel()
	for _, unit := range units {
		for _, head := range heads[:2] {
			old := copyOf(head, 41, "the old text")
			for op := int64(1); op <= 6; op++ {
				for _, n := range []int{0, 1, 2, 4, head/unit - 1, 10000} {
					for way := range keepWays {
						s := onSlab(t, laidDown(t, unit, 2*head, old), api.Glitch{Op: op, Kind: api.GlitchOff, N: n})
						next, e := header.Commit(s, old, "the new text")
						name := fmt.Sprintf("unit %d, head %d, power gone at %d with %d written, keeping %d", unit, head, op, n, way)
						if (e == api.OK) != (op == 6) {
							t.Fatalf("%s: error %d", name, e)
						}
						s.Restart(keeping(way, len(s.Pending()))...)
						got := loadTwice(t, name, s)
						whole := old
						whole.Seq, whole.Text = 42, "the new text"
						got.Second = false
						if got != whole && (got != old || e == api.OK) {
							t.Errorf("%s: %v", name, got)
						}
						if e == api.OK && next != whole {
							t.Errorf("%s: Commit: %v", name, next)
						}
					}
				}
			}
		}
	}
}

// loadTwice loads, where the power may go at the first operation; another load finds the same and has nothing to mend.
func loadTwice(t *testing.T, name string, s *slab.Slab) api.HeadCopy {
	t.Helper()
	got, _, e := header.Load(s, always)
	if e == api.ErrOff {
		s.Restart()
		got, _, e = header.Load(s, always)
	}
	expect(t, name, e, api.OK)
	if len(s.Pending()) != 0 {
		t.Errorf("%s: Load leaves writes that are not durable", name)
	}
	again, did, e := header.Load(s, always)
	if again.Second = got.Second; again != got || did || e != api.OK {
		t.Errorf("%s: loaded again: %v, mended %v, error %d", name, again, did, e)
	}
	return got
}

// P8.10: each single sector of a copy kept by itself, and each lost by itself, in the secondary copy and in the primary one.
func TestCommitEachSector(t *testing.T) {
	t.Parallel()
	const head = 1 << 14
	old := copyOf(head, 41, string(bytes.Repeat([]byte("old"), 4000)))
	text := string(bytes.Repeat([]byte("new!"), 3000))
	for _, unit := range []int{512, 4096} {
		for _, op := range []int64{3, 5} {
			for one := range head / unit {
				for _, lost := range []bool{false, true} {
					s := onSlab(t, laidDown(t, unit, 2*head, old), api.Glitch{Op: op, Kind: api.GlitchOff})
					header.Commit(s, old, text)
					keep := slices.Repeat([]bool{lost}, head/unit)
					keep[one] = !lost
					s.Restart(keep...)
					disk := restOf(t, s)
					next := copyOf(head, 42, text)
					there := bytes.Equal(disk[head:], modelPack(turned(next))) // some sectors are alike in both
					got := loadTwice(t, "a sector", s)
					if (got.Text == text) != there || !there && (op == 5 || got.Text != old.Text) {
						t.Errorf("unit %d, operation %d, sector %d, lost %v: %.20q", unit, op, one, lost, got.Text)
					}
				}
			}
		}
	}
}

// P8.10: the power goes while a load mends: another one mends again, and finds the same.
func TestLoadCrash(t *testing.T) {
	t.Parallel()
	const head = 1 << 14
	for _, unit := range units {
		for _, at := range []int{0, head} { // the copy that is torn
			c := copyOf(head, 41, "the text")
			for op := int64(1); op <= 6; op++ {
				for way := range keepWays {
					d := laidDown(t, unit, 2*head, c)
					clear(d.disk[at : at+head/2])
					s := onSlab(t, d, api.Glitch{Op: op, Kind: api.GlitchOff, N: 5})
					_, _, e := header.Load(s, always)
					if e == api.ErrOff {
						s.Restart(keeping(way, len(s.Pending()))...)
					}
					got := loadTwice(t, "torn", s)
					if got.Second = false; got != c {
						t.Errorf("unit %d, operation %d, keeping %d: %v", unit, op, way, got)
					}
				}
			}
		}
	}
}

// lives is a device whose power goes at many operations, and what is known of its commits.
type lives struct {
	t     *testing.T
	r     *rand.Rand
	name  string
	s     *slab.Slab
	may   []string // the text of the last commit that answered OK, and of those that were begun since
	seq   uint64   // of the last load that answered OK
	texts int
}

// anyPlan gives losses of power and errors of the device, no bit is turned.
func anyPlan(r *rand.Rand) []api.Glitch {
	var plan []api.Glitch
	for op := int64(6); op < 200; op += 1 + r.Int63n(14) {
		kind := []int{api.GlitchOff, api.GlitchOff, api.GlitchOff, api.GlitchRead, api.GlitchWrite, api.GlitchPart, api.GlitchFlush}[r.Intn(7)]
		plan = append(plan, api.Glitch{Op: op, Kind: kind, N: r.Intn(40)})
	}
	return plan
}

// crash keeps any of the writes.
func (l *lives) crash() {
	n := len(l.s.Pending())
	if l.r.Intn(4) == 0 {
		l.s.Restart(keeping(l.r.Intn(keepWays), n)...)
		return
	}
	keep := make([]bool, l.r.Intn(n+1))
	share := 1 + l.r.Intn(5)
	for i := range keep {
		keep[i] = l.r.Intn(6) >= share
	}
	l.s.Restart(keep...)
}

// live is one life: Load, then commits until one fails, or none is left.
func (l *lives) live() {
	c, _, e := header.Load(l.s, always)
	if e != api.OK {
		if e != api.ErrOff && e != api.ErrDevice {
			l.t.Fatalf("%s: Load: error %d", l.name, e)
		}
		return
	}
	if !slices.Contains(l.may, c.Text) || c.Seq < l.seq {
		l.t.Fatalf("%s: %q of number %d is loaded; before %d; %q", l.name, c.Text, c.Seq, l.seq, l.may)
	}
	l.seq, l.may = c.Seq, []string{c.Text} // what was loaded once is not lost
	for range l.r.Intn(5) {
		l.texts++
		text := fmt.Sprintf("text %d %s", l.texts, bytes.Repeat([]byte{'a' + byte(l.texts%26)}, l.r.Intn(12000)))
		l.may = append(l.may, text)
		next, e := header.Commit(l.s, c, text)
		if e != api.OK {
			return
		}
		c, l.may = next, []string{text}
	}
}

// P8.10: any commits over any number of lives.
func TestLives(t *testing.T) {
	t.Parallel()
	for seed := range int64(250) {
		r := rand.New(rand.NewSource(seed))
		head, unit := heads[r.Intn(2)], units[r.Intn(4)]
		s, e := slab.New(unit, uint64(2*head/unit+r.Intn(3)), anyPlan(r)...)
		if e != api.OK {
			t.Fatal(e)
		}
		_, e = header.Commit(s, copyOf(head, 0, ""), "the first")
		expect(t, "the first commit", e, api.OK)
		l := &lives{t: t, r: r, name: fmt.Sprint("seed ", seed), s: s, may: []string{"the first"}}
		for s.Ops() < 220 {
			l.live()
			if !s.Lit() || r.Intn(2) == 0 {
				l.crash()
			}
		}
	}
}

// P8.10: the first commit of all, cut short: there is nothing, or it is there whole.
func TestFirstCommitCrash(t *testing.T) {
	const head = 1 << 14
	for _, unit := range units {
		for op := int64(1); op <= 5; op++ {
			for way := range keepWays {
				s := onSlab(t, newTape(t, unit, 2*head), api.Glitch{Op: op, Kind: api.GlitchOff, N: 3})
				_, e := header.Commit(s, copyOf(head, 0, ""), "the first")
				expect(t, "Commit", e, api.ErrOff)
				s.Restart(keeping(way, len(s.Pending()))...)
				got, _, e := header.Load(s, always)
				if e != api.ErrHeader && (e != api.OK || got.Seq != 1 || got.Text != "the first") || op > 3 && e != api.OK {
					t.Errorf("unit %d, operation %d, keeping %d: %v, error %d", unit, op, way, got, e)
				}
			}
		}
	}
}

// damage changes a copy in some way.
func damage(r *rand.Rand, b []byte) {
	switch r.Intn(6) {
	case 0:
		b[r.Intn(len(b))] ^= 1 << r.Intn(8)
	case 1:
		clear(b)
	case 2:
		r.Read(b)
	case 3:
		at := r.Intn(len(b))
		r.Read(b[at:min(len(b), at+1+r.Intn(700))])
	case 4:
		b[r.Intn(512)] ^= byte(1 + r.Intn(255))
	case 5: // two sectors change their places
		i, j := r.Intn(len(b)/512), r.Intn(len(b)/512)
		x := bytes.Clone(b[i*512 : i*512+512])
		copy(b[i*512:], b[j*512:j*512+512])
		copy(b[j*512:], x)
	}
}

// P8.11: one of the two copies is changed in any way: what is loaded is the same, and it is mended.
func TestDamage(t *testing.T) {
	t.Parallel()
	for seed := range int64(1500) {
		r := rand.New(rand.NewSource(seed))
		head, unit := heads[min(r.Intn(8), 2)*r.Intn(2)], units[r.Intn(4)]
		d := newTape(t, unit, 2*head+4096*r.Intn(3))
		c, e := header.Commit(d, copyOf(head, uint64(r.Intn(1000)), ""), anyLines(r))
		expect(t, "Commit", e, api.OK)
		sound := bytes.Clone(d.disk)
		at := head * r.Intn(2)
		hurt := d.disk[at : at+head]
		damage(r, hurt)
		if bytes.Equal(summed(hurt), hurt) {
			continue // it names its own digest all the same
		}
		got, did, e := header.Load(d, always)
		if want := c; e != api.OK || !did || got.Second != (at == 0) || !bytes.Equal(d.disk, sound) {
			t.Fatalf("seed %d: %v, mended %v, error %d", seed, got, did, e)
		} else if got.Second = false; got != want {
			t.Fatalf("seed %d: %v, not %v", seed, got, want)
		}
	}
}

// anyLines gives a text without a zero byte.
func anyLines(r *rand.Rand) string {
	b := make([]byte, r.Intn(12287))
	for i := range b {
		b[i] = byte(' ' + r.Intn(90))
	}
	return string(b)
}

// P8.11: every byte of both copies that is a part of the digest, turned by itself.
func TestDamageEachByte(t *testing.T) {
	t.Parallel()
	const head = 1 << 14
	d := newTape(t, 512, 2*head)
	c, e := header.Commit(d, copyOf(head, 8, ""), "the text")
	expect(t, "Commit", e, api.OK)
	for at := range 2 * head {
		if in := at % head; in >= 480 && in < 512 || in > 600 && in%23 != 0 {
			continue
		}
		hurt := d.again()
		hurt.disk[at] ^= 1 << (at % 8)
		got, did, e := header.Load(hurt, always)
		if got.Second = false; got != c || !did || e != api.OK || !bytes.Equal(hurt.disk, d.disk) {
			t.Errorf("byte %d: %v, mended %v, error %d", at, got, did, e)
		}
	}
}
