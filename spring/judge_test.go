package spring_test

import (
	"math"
	"math/rand"
	"testing"

	"coffer/api"
	"coffer/spring"
)

var counts = []int{64, 65, 72, 100, 255, 511, 512, 513, 1000, 65535, 65536, 65537, 1 << 17, 1<<20 - 1, 1 << 20}

// well tells the middle of all that may be of so many bytes.
func well(count int) api.Health {
	c := int64(count)
	return api.Health{Count: count, Run: 2, Most: 9, Ones: 4 * count, Turned: 4 * count, Poker: c * c / 4, Far: c}
}

// root tells the greatest number whose square is at most n.
func root(n int64) int64 {
	r := int64(math.Sqrt(float64(n)))
	for r*r > n {
		r--
	}
	for (r+1)*(r+1) <= n {
		r++
	}
	return r
}

func checkJudge(t *testing.T, want api.Errno, h api.Health) {
	t.Helper()
	if e := spring.Judge(h); e != want {
		t.Errorf("%+v: error %d, not %d", h, e, want)
	}
	if m := modelJudge(h); m != want {
		t.Errorf("%+v: the test asks for %d, the model for %d", h, want, m)
	}
}

// checkField lays numbers into a field: each with its answer.
func checkField(t *testing.T, h api.Health, lay func(*api.Health, int64), answers map[int64]api.Errno) {
	t.Helper()
	for n, want := range answers {
		x := h
		lay(&x, n)
		checkJudge(t, want, x)
	}
}

func layCount(h *api.Health, n int64)  { h.Count = int(n) }
func layRun(h *api.Health, n int64)    { h.Run = int(n) }
func layMost(h *api.Health, n int64)   { h.Most = int(n) }
func layOnes(h *api.Health, n int64)   { h.Ones = int(n) }
func layTurned(h *api.Health, n int64) { h.Turned = int(n) }
func layPoker(h *api.Health, n int64)  { h.Poker = n }
func layFar(h *api.Health, n int64)    { h.Far = n }

// fields tells all fields, each Re and each Im too.
func fields() []func(*api.Health, int64) {
	all := []func(*api.Health, int64){layCount, layRun, layMost, layOnes, layTurned, layPoker, layFar}
	for k := range 4 {
		all = append(all, func(h *api.Health, n int64) { h.Ends[k].Re = n }, func(h *api.Health, n int64) { h.Ends[k].Im = n })
	}
	return all
}

// P6.6: the middle is well, of every count that is judged; no other count is.
func TestJudgeCounts(t *testing.T) {
	for _, c := range counts {
		checkJudge(t, api.OK, well(c))
	}
	for _, c := range []int{0, 1, 63, 1<<20 + 1, 1 << 21, 1 << 40, -1, -64, -65536} {
		checkJudge(t, api.ErrArg, well(c))
	}
	checkJudge(t, api.ErrArg, api.Health{})
	for _, c := range []int64{math.MinInt, math.MaxInt, 1 << 32, 1<<32 + 64, 1 << 62} {
		checkField(t, well(64), layCount, map[int64]api.Errno{c: api.ErrArg})
	}
}

// P6.6: each field's bounds, on both sides: beyond them it is no argument; within them, so far out, it is sick.
func TestJudgeBounds(t *testing.T) {
	const arg, sick = api.ErrArg, api.ErrSick
	for _, count := range counts {
		c, h := int64(count), well(count)
		window := min(c, 512)
		checkField(t, h, layRun, map[int64]api.Errno{0: arg, -1: arg, 1: api.OK, c: sick, c + 1: arg})
		checkField(t, h, layMost, map[int64]api.Errno{0: arg, -1: arg, 1: api.OK, window: sick, window + 1: arg})
		checkField(t, h, layOnes, map[int64]api.Errno{-1: arg, 0: sick, 8 * c: sick, 8*c + 1: arg})
		checkField(t, h, layTurned, map[int64]api.Errno{-1: arg, 0: sick, 8*c - 1: sick, 8 * c: arg})
		checkField(t, h, layPoker, map[int64]api.Errno{-1: arg, 0: api.OK, 4 * c * c: sick, 4*c*c + 1: arg})
		checkField(t, h, layFar, map[int64]api.Errno{-1: arg, 0: api.OK, c*c + 1: arg})
		if c > 64 {
			checkField(t, h, layFar, map[int64]api.Errno{c * c: sick})
		}
		for _, lay := range fields()[7:] {
			checkField(t, h, lay, map[int64]api.Errno{-c - 1: arg, -c: sick, 0: api.OK, c: sick, c + 1: arg})
		}
	}
}

// P6.6: each row of the table, at its last good number and one beyond.
func TestJudgeRows(t *testing.T) {
	const sick = api.ErrSick
	for _, count := range counts {
		c, h := int64(count), well(count)
		longest := int64(4)
		if count > 65536 {
			longest = 6
		}
		checkField(t, h, layRun, map[int64]api.Errno{longest: api.OK, longest + 1: sick})
		checkField(t, h, layMost, map[int64]api.Errno{20: api.OK, 21: sick})
		half := root(288*c) / 2
		checkField(t, h, layOnes, map[int64]api.Errno{4*c - half - 1: sick, 4*c - half: api.OK, 4*c + half: api.OK, 4*c + half + 1: sick})
		m := 8*c - 1
		top := (m + root(36*m)) / 2
		checkField(t, h, layTurned, map[int64]api.Errno{m - top - 1: sick, m - top: api.OK, top: api.OK, top + 1: sick})
		poker := (4*c*c + 200*c) / 16
		checkField(t, h, layPoker, map[int64]api.Errno{poker: api.OK, poker + 1: sick})
		checkField(t, h, layFar, map[int64]api.Errno{64 * c: api.OK})
		if c > 64 {
			checkField(t, h, layFar, map[int64]api.Errno{64*c + 1: sick})
		}
		r := root(32 * c)
		for _, lay := range fields()[7:] {
			checkField(t, h, lay, map[int64]api.Errno{-r - 1: sick, -r: api.OK, r: api.OK, r + 1: sick})
		}
	}
}

// P6.6: an end's Re and Im count together, and each end alone.
func TestJudgeEnds(t *testing.T) {
	for k := range 4 {
		for _, way := range []api.Walk{{Re: 1, Im: 1}, {Re: 1, Im: -1}, {Re: -1, Im: 1}, {Re: -1, Im: -1}} {
			h := well(64) // 32 · 64 is 32 · 32 twice
			h.Ends[k] = api.Walk{Re: 32 * way.Re, Im: 32 * way.Im}
			checkJudge(t, api.OK, h)
			h.Ends[k].Re += way.Re
			checkJudge(t, api.ErrSick, h)
			h.Ends[k] = api.Walk{Re: 32 * way.Re, Im: 33 * way.Im}
			checkJudge(t, api.ErrSick, h)
		}
	}
	h := well(64)
	for k := range h.Ends {
		h.Ends[k] = api.Walk{Re: 32, Im: -32}
	}
	checkJudge(t, api.OK, h)
}

// P6.6: a number that may not be is told ahead of a sick one, whichever fields they are.
func TestJudgeArgumentFirst(t *testing.T) {
	for i, wrong := range fields() {
		for j, ill := range fields()[1:] {
			if i == j+1 {
				continue
			}
			for _, n := range []int64{-1 << 30, 1 << 50, math.MinInt64, math.MaxInt64} {
				h := well(100)
				ill(&h, 100)
				wrong(&h, n)
				checkJudge(t, api.ErrArg, h)
			}
		}
	}
}

// P6.6: numbers so great that a product of them would not fit, in each field, alone and in all at once.
func TestJudgeGreatNumbers(t *testing.T) {
	great := []int64{math.MinInt64, math.MinInt64 + 1, math.MaxInt64, math.MaxInt64 - 1, 1 << 62, -1 << 62, 1 << 61, 1 << 60, 1 << 32, -1 << 32, 1<<32 + 1, 1<<33 + 400, 1 << 63 / 3, 3037000500, -3037000500, 4294967296}
	for _, count := range counts {
		for _, n := range great {
			all := well(count)
			for _, lay := range fields() {
				one := well(count)
				lay(&one, n)
				if e, want := spring.Judge(one), modelJudge(one); e != want {
					t.Errorf("%+v: error %d, not %d", one, e, want)
				}
				lay(&all, n)
			}
			checkJudge(t, api.ErrArg, all)
			all.Count = count
			checkJudge(t, api.ErrArg, all)
		}
	}
}

// near gives a number at most some away from another one, or, seldom, any.
func near(r *rand.Rand, n, some int64) int64 {
	if r.Intn(40) == 0 {
		return int64(r.Uint64())
	}
	return n + r.Int63n(2*some+1) - some
}

// P6.6: any numbers, as the second reckoning has them.
func TestJudgeAny(t *testing.T) {
	r := rand.New(rand.NewSource(66))
	got := map[api.Errno]int{}
	for range 200000 {
		count := counts[r.Intn(len(counts))]
		if r.Intn(2) == 0 {
			count = 50 + r.Intn(1<<uint(6+r.Intn(15)))
		}
		c := int64(count)
		h := well(count)
		for range 1 + r.Intn(3) {
			switch r.Intn(8) {
			case 0:
				h.Run = int(near(r, 5, 3))
			case 1:
				h.Most = int(near(r, 20, 2))
			case 2:
				h.Ones = int(near(r, 4*c+root(288*max(c, 0))/2, 3))
			case 3:
				h.Turned = int(near(r, 4*c-root(288*max(c, 0))/2, 3))
			case 4:
				h.Poker = near(r, (c*c+50*c)/4, 3)
			case 5:
				h.Far = near(r, 64*c, 2)
			default:
				a := r.Float64() * 2 * math.Pi
				far := math.Sqrt(32 * float64(c))
				h.Ends[r.Intn(4)] = api.Walk{Re: near(r, int64(far*math.Cos(a)), 2), Im: near(r, int64(far*math.Sin(a)), 2)}
			}
		}
		e, want := spring.Judge(h), modelJudge(h)
		if e != want {
			t.Fatalf("%+v: error %d, not %d", h, e, want)
		}
		got[e]++
	}
	if len(got) != 3 || got[api.OK] < 1000 || got[api.ErrSick] < 1000 || got[api.ErrArg] < 1000 {
		t.Errorf("too few of one answer: %v", got)
	}
}

// P6.5, P6.6: what a spring gives is well, of every digest and of many lengths; what is no random bytes is not.
func TestJudgeDrawn(t *testing.T) {
	for _, bits := range hashes {
		s := mustNew(t, bits, 1000, rising(40), nil, nil)
		for _, n := range []int{64, 65, 100, 512, 1000, 65536} {
			if e := spring.Judge(mustTest(t, mustDraw(t, s, n))); e != api.OK {
				t.Errorf("%d: a draw of %d bytes: error %d", bits, n, e)
			}
		}
		var all []byte
		for range 16 {
			all = append(all, mustDraw(t, s, 65536)...)
		}
		if h := mustTest(t, all); spring.Judge(h) != api.OK {
			t.Errorf("%d: 2^20 bytes: %+v", bits, h)
		}
	}
	for _, b := range [][]byte{make([]byte, 64), rising(64), []byte("The quick brown fox jumps over the lazy dog, and the dog sleeps on, and on.")} {
		if e := spring.Judge(mustTest(t, b)); e != api.ErrSick {
			t.Errorf("%.20q: error %d", b, e)
		}
	}
}

// P6.5, P6.6: what Test tells of enough bytes is always an argument.
func TestJudgeTakesAllTested(t *testing.T) {
	r := rand.New(rand.NewSource(67))
	for range 500 {
		b := few(r, 64+r.Intn(1000))
		if e := spring.Judge(mustTest(t, b)); e == api.ErrArg {
			t.Fatalf("%x", b)
		}
	}
	for x := range 256 {
		b := make([]byte, 700)
		for i := range b {
			b[i] = byte(x)
		}
		if e := spring.Judge(mustTest(t, b)); e != api.ErrSick {
			t.Errorf("%d: error %d", x, e)
		}
	}
}
