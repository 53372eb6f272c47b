package spring_test

import (
	"bytes"
	"math/rand"
	"testing"

	"coffer/api"
	"coffer/spring"
)

func mustTest(t *testing.T, b []byte) api.Health {
	t.Helper()
	h, e := spring.Test(b)
	if e != api.OK {
		t.Fatalf("Test of %d bytes: error %d", len(b), e)
	}
	return h
}

func checkHealth(t *testing.T, name string, b []byte) {
	t.Helper()
	if h, want := mustTest(t, b), modelHealth(b); h != want {
		t.Fatalf("%s, %d bytes: %+v, not %+v", name, len(b), h, want)
	}
}

// P6.5: no bytes: all zeros.
func TestNoBytes(t *testing.T) {
	for _, b := range [][]byte{nil, {}, make([]byte, 0, 9)} {
		if h := mustTest(t, b); h != (api.Health{}) {
			t.Errorf("%+v", h)
		}
	}
}

// P6.5: each single byte; the first bit has none ahead.
func TestOneByte(t *testing.T) {
	for x := range 256 {
		checkHealth(t, "one byte", []byte{byte(x)})
	}
	for _, c := range []struct {
		x            byte
		ones, turned int
	}{{0x00, 0, 0}, {0x80, 1, 1}, {0xff, 8, 0}, {0x01, 1, 1}, {0xaa, 4, 7}, {0x55, 4, 7}, {0x7f, 7, 1}, {0x18, 2, 2}} {
		if h := mustTest(t, []byte{c.x}); h.Ones != c.ones || h.Turned != c.turned || h.Run != 1 || h.Most != 1 || h.Far != 1 {
			t.Errorf("%x: %+v", c.x, h)
		}
	}
}

// P6.5: all pairs of bytes.
func TestTwoBytes(t *testing.T) {
	for x := range 256 {
		for y := range 256 {
			checkHealth(t, "two bytes", []byte{byte(x), byte(y)})
		}
	}
}

// P6.5: the same byte, so often as it may: each field at its greatest.
func TestMostBytes(t *testing.T) {
	const most = api.MaxTested
	for _, c := range []struct {
		x            byte
		ones, turned int
		end          api.Walk
	}{
		{0x00, 0, 0, api.Walk{Re: most}},
		{0xff, 8 * most, 0, api.Walk{Im: -most}},
		{0x55, 4 * most, 8*most - 1, api.Walk{Im: most}},
		{0xaa, 4 * most, 8*most - 1, api.Walk{Re: -most}},
	} {
		want := api.Health{Count: most, Run: most, Most: 512, Ones: c.ones, Turned: c.turned, Poker: 4 * most * most, Far: most * most, Ends: [4]api.Walk{c.end, c.end, c.end, c.end}}
		if h := mustTest(t, bytes.Repeat([]byte{c.x}, most)); h != want {
			t.Errorf("%x: %+v", c.x, h)
		}
	}
	checkHealth(t, "as many as may be", some(1, most))
}

// P6.5: one byte more than may be.
func TestTooManyBytes(t *testing.T) {
	for _, n := range []int{1<<20 + 1, 1<<20 + 2, 1 << 21} {
		if h, e := spring.Test(some(1, n)); e != api.ErrLong || h != (api.Health{}) {
			t.Errorf("%d bytes: %+v, error %d", n, h, e)
		}
	}
}

// P6.5: runs at both ends, in the midst, and of one byte beside another.
func TestRuns(t *testing.T) {
	for _, c := range []struct {
		b   []byte
		run int
	}{
		{[]byte{1, 2, 1, 2}, 1},
		{[]byte{5, 5, 5, 1, 2, 2}, 3},
		{[]byte{1, 1, 2, 5, 5, 5}, 3},
		{[]byte{1, 1, 5, 5, 5, 2, 2}, 3},
		{[]byte{5, 5, 1, 5, 5, 1, 5}, 2},
		{[]byte{0, 0, 0, 0, 1}, 4},
		{[]byte{1, 0, 0, 0, 0}, 4},
		{[]byte{1, 1, 2, 2, 3, 3, 3, 4, 4}, 3},
	} {
		if h := mustTest(t, c.b); h.Run != c.run {
			t.Errorf("%v: Run %d, not %d", c.b, h.Run, c.run)
		}
	}
	long := rising(1000)
	copy(long[300:], bytes.Repeat([]byte{7}, 600))
	if h := mustTest(t, long); h.Run != 600 || h.Most != 512 {
		t.Errorf("a run longer than a window: %d, %d", h.Run, h.Most)
	}
}

// apart gives bytes of which 0xee stands at the places alone; no other byte comes more than twice in a window and a half.
func apart(n int, places ...int) []byte {
	b := make([]byte, n)
	for i := range b {
		b[i] = byte(i % 233)
	}
	for _, p := range places {
		b[p] = 0xee
	}
	return b
}

// P6.5: a window holds 512 bytes: two that stand 511 from each other share one, two that stand 512 from each other do not.
func TestWindow(t *testing.T) {
	for _, c := range []struct {
		n      int
		places []int
		most   int
	}{
		{2000, []int{0, 100, 200, 511}, 4},
		{2000, []int{0, 100, 200, 512}, 3},
		{2000, []int{700, 800, 900, 1211}, 4},
		{2000, []int{700, 800, 900, 1000, 1212}, 4},
		{2000, []int{1488, 1500, 1600, 1999}, 4},
		{2000, []int{1487, 1500, 1600, 1999}, 3},
		{2000, []int{0, 1, 2, 3, 600, 601, 602, 603, 604, 1500, 1501, 1502, 1503}, 5},
		{511, []int{0, 1, 2, 509, 510}, 5},
		{512, []int{0, 1, 2, 510, 511}, 5},
		{513, []int{0, 1, 2, 511, 512}, 4},
		{10, []int{0, 3, 6, 9}, 4},
	} {
		if h := mustTest(t, apart(c.n, c.places...)); h.Most != c.most {
			t.Errorf("%d bytes, %v: Most %d, not %d", c.n, c.places, h.Most, c.most)
		}
	}
}

// P6.5: a window that is neither the first nor the last has the most, and a byte that was the most is forgotten as the window goes on.
func TestWindowGoesOn(t *testing.T) {
	b := rising(4096)
	for i := range 10 {
		b[2000+40*i] = 0xfe
	}
	if h := mustTest(t, b); h.Most < 11 || h.Most > 12 || h != modelHealth(b) {
		t.Errorf("%+v", h)
	}
	many := bytes.Join([][]byte{bytes.Repeat([]byte{1}, 300), bytes.Repeat([]byte{2}, 512), bytes.Repeat([]byte{1}, 300)}, nil)
	if h := mustTest(t, many); h.Most != 512 || h.Run != 512 {
		t.Errorf("%+v", h)
	}
	far := bytes.Join([][]byte{bytes.Repeat([]byte{1}, 300), rising(512), bytes.Repeat([]byte{1}, 299)}, nil)
	if h := mustTest(t, far); h.Most != 301 {
		t.Errorf("%+v", h)
	}
}

// P6.5: each step of each walk, alone: the other walks take another one.
func TestSteps(t *testing.T) {
	way := []api.Walk{{Re: 1}, {Im: 1}, {Re: -1}, {Im: -1}}
	for k := range 4 {
		for pair := range 4 {
			for rest := range 4 {
				x := byte(rest * 0x55)
				x = x&^(3<<(6-2*k)) | byte(pair)<<(6-2*k)
				h := mustTest(t, []byte{x, x, x})
				for j, end := range h.Ends {
					want := way[rest]
					if j == k {
						want = way[pair]
					}
					if end != (api.Walk{Re: 3 * want.Re, Im: 3 * want.Im}) {
						t.Errorf("byte %x three times: walk %d ends at %v", x, j, end)
					}
				}
			}
		}
	}
}

// P6.5: the greatest distance stands, though the walk comes back; it is of walk 0 alone.
func TestFar(t *testing.T) {
	for _, c := range []struct {
		b   []byte
		far int64
		end api.Walk
	}{
		{bytes.Join([][]byte{bytes.Repeat([]byte{0x00}, 7), bytes.Repeat([]byte{0x80}, 7)}, nil), 49, api.Walk{}},
		{bytes.Join([][]byte{bytes.Repeat([]byte{0x80}, 9), bytes.Repeat([]byte{0x00}, 11)}, nil), 81, api.Walk{Re: 2}},
		{bytes.Join([][]byte{bytes.Repeat([]byte{0x40}, 3), bytes.Repeat([]byte{0x00}, 4), bytes.Repeat([]byte{0xc0}, 3)}, nil), 25, api.Walk{Re: 4}},
		{[]byte{0x00, 0x80, 0x00, 0x80}, 1, api.Walk{}},
		{[]byte{0x00, 0x40, 0x80, 0xc0}, 2, api.Walk{}},
		{[]byte{0xc0, 0xc0, 0x40}, 4, api.Walk{Im: -1}},
	} {
		if h := mustTest(t, c.b); h.Far != c.far || h.Ends[0] != c.end {
			t.Errorf("%x: Far %d, end %v", c.b, h.Far, h.Ends[0])
		}
	}
	other := bytes.Repeat([]byte{0x00, 0x80}, 20)
	if h := mustTest(t, other); h.Far != 1 || h.Ends[1] != (api.Walk{Re: 40}) {
		t.Errorf("%+v", h)
	}
}

// few gives bytes of few values, so that runs and crowded windows come.
func few(r *rand.Rand, n int) []byte {
	values := some(r.Int63(), 1+r.Intn(6))
	b := make([]byte, n)
	for i := range b {
		b[i] = values[r.Intn(len(values))]
		if i > 0 && r.Intn(3) == 0 {
			b[i] = b[i-1]
		}
	}
	return b
}

// P6.5: any bytes, as the second reckoning has them.
func TestAnyBytes(t *testing.T) {
	r := rand.New(rand.NewSource(65))
	for range 1500 {
		n := r.Intn(1600)
		checkHealth(t, "any bytes", some(r.Int63(), n))
		checkHealth(t, "few values", few(r, n))
		checkHealth(t, "some of both", append(few(r, n/3), append(some(r.Int63(), n/3), few(r, n/3)...)...))
	}
	for _, n := range []int{510, 511, 512, 513, 514, 1023, 1024, 1025} {
		checkHealth(t, "about a window", few(r, n))
		checkHealth(t, "about a window", some(r.Int63(), n))
	}
}

// P6.10: what follows of two lists, one behind the other.
func TestBehindOneAnother(t *testing.T) {
	r := rand.New(rand.NewSource(610))
	for range 2000 {
		b, c := few(r, r.Intn(70)), some(r.Int63(), r.Intn(70))
		if r.Intn(2) == 0 {
			b, c = c, b
		}
		x, y, both := mustTest(t, b), mustTest(t, c), mustTest(t, join(b, c))
		turned := x.Turned + y.Turned
		if len(b) > 0 && len(c) > 0 && b[len(b)-1]&1 != c[0]>>7 {
			turned++
		}
		if both.Count != x.Count+y.Count || both.Ones != x.Ones+y.Ones || both.Turned != turned {
			t.Fatalf("%x, %x: %+v, %+v, %+v", b, c, x, y, both)
		}
		for k, end := range both.Ends {
			if end.Re != x.Ends[k].Re+y.Ends[k].Re || end.Im != x.Ends[k].Im+y.Ends[k].Im || (end.Re+end.Im-int64(both.Count))%2 != 0 {
				t.Fatalf("%x, %x: walk %d: %+v, %+v, %+v", b, c, k, x, y, both)
			}
		}
		if n := int64(both.Count); 4*both.Poker < n*n || both.Poker > 4*n*n {
			t.Fatalf("%x, %x: Poker %d", b, c, both.Poker)
		}
	}
}

// P6.10: Poker's bounds are met: all half bytes alike often, and one alone.
func TestPokerBounds(t *testing.T) {
	even := []byte{0x01, 0x23, 0x45, 0x67, 0x89, 0xab, 0xcd, 0xef}
	if h := mustTest(t, even); h.Poker != 16 {
		t.Errorf("%d", h.Poker)
	}
	if h := mustTest(t, bytes.Repeat([]byte{0x77}, 10)); h.Poker != 400 {
		t.Errorf("%d", h.Poker)
	}
	if h := mustTest(t, bytes.Repeat([]byte{0x70}, 10)); h.Poker != 200 {
		t.Errorf("%d", h.Poker)
	}
}
