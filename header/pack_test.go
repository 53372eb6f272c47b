package header_test

import (
	"bytes"
	"fmt"
	"math"
	"math/rand"
	"strings"
	"testing"

	"coffer/api"
	"coffer/header"
)

// checkPack holds Pack against the model, and Unpack against what was packed.
func checkPack(t *testing.T, name string, c api.HeadCopy) {
	t.Helper()
	b, e := header.Pack(c)
	want := modelRefused(c)
	if e != want || want != api.OK && len(b) != 0 {
		t.Errorf("%s: Pack: error %d, not %d, with %d bytes", name, e, want, len(b))
		return
	}
	if want != api.OK {
		return
	}
	if !bytes.Equal(b, modelPack(c)) {
		t.Errorf("%s: Pack gives other bytes", name)
	}
	if got, e := header.Unpack(b, c.Second); e != api.OK || got != c {
		t.Errorf("%s: Unpack of it: error %d, %.200v", name, e, got)
	}
	if got, e := header.Unpack(b, !c.Second); e != api.ErrMagic || got != (api.HeadCopy{}) {
		t.Errorf("%s: Unpack of it as the other one: error %d", name, e)
	}
}

// P8.1, P8.2: copies of every size, both of them, empty texts and the longest ones.
func TestPackSizes(t *testing.T) {
	t.Parallel()
	for _, head := range heads {
		for _, text := range []string{"", "{}", strings.Repeat("t", head-4098), strings.Repeat("u", head-4097), strings.Repeat("v", head-4096), strings.Repeat("w", head)} {
			c := copyOf(head, 1, text)
			checkPack(t, fmt.Sprintf("head %d, %d bytes of text", head, len(text)), c)
			checkPack(t, fmt.Sprintf("head %d, %d bytes of text, the secondary", head, len(text)), turned(c))
		}
	}
}

// P8.1: each field's bytes by themselves, as the chapter's table says them.
func TestPackFields(t *testing.T) {
	c := copyOf(1<<15, 0x0102030405060708, "the text")
	for _, c := range []api.HeadCopy{c, turned(c)} {
		b, e := header.Pack(c)
		if e != api.OK || len(b) != 1<<15 {
			t.Fatalf("Pack: %d bytes, error %d", len(b), e)
		}
		magic, begins := "LUKS\xba\xbe", "\x00\x00\x00\x00\x00\x00\x00\x00"
		if c.Second {
			magic, begins = "SKUL\xba\xbe", "\x00\x00\x00\x00\x00\x00\x80\x00"
		}
		for _, f := range []struct {
			at, end int
			want    string
		}{
			{0, 6, magic}, {6, 8, "\x00\x02"}, {8, 16, "\x00\x00\x00\x00\x00\x00\x80\x00"}, {16, 24, "\x01\x02\x03\x04\x05\x06\x07\x08"},
			{24, 72, c.Label}, {72, 104, "sha256"}, {104, 168, c.Salt}, {168, 208, c.UUID}, {208, 256, c.Subsystem}, {256, 264, begins}, {264, 448, ""}, {480, 4096, ""}, {4096, 1 << 15, "the text"},
		} {
			want := f.want + strings.Repeat("\x00", f.end-f.at-len(f.want))
			if got := string(b[f.at:f.end]); got != want {
				t.Errorf("second %v: bytes %d to %d: %q", c.Second, f.at, f.end-1, got)
			}
		}
		if !bytes.Equal(summed(b), b) {
			t.Errorf("second %v: the digest", c.Second)
		}
	}
}

// change is something that is done to a copy, and the error that Pack tells of it.
type change struct {
	name string
	do   func(c *api.HeadCopy)
	e    api.Errno
}

// changes lists the edges of each field, and what lies beyond them.
func changes() []change {
	var out []change
	add := func(e api.Errno, name string, do func(c *api.HeadCopy)) { out = append(out, change{name, do, e}) }
	for _, n := range []int{math.MinInt, -1 << 62, -1 << 14, -1, 0, 1, 4096, 4097, 8192, 1<<14 - 1, 1<<14 + 1, 3 << 13, 3 << 14, 1<<22 - 1, 1<<22 + 1, 1 << 23, 1 << 32, 1 << 46, math.MaxInt} {
		add(api.ErrHeadSize, fmt.Sprintf("Head %d", n), func(c *api.HeadCopy) { c.Head = n })
	}
	for _, n := range []uint64{0, 1<<62 + 1, 1 << 63, math.MaxUint64} {
		add(api.ErrHeadField, fmt.Sprintf("Seq %d", n), func(c *api.HeadCopy) { c.Seq = n })
	}
	for _, n := range []uint64{1, 2, 1 << 32, 1<<62 - 1, 1 << 62} {
		add(api.OK, fmt.Sprintf("Seq %d", n), func(c *api.HeadCopy) { c.Seq = n })
	}
	for _, f := range []struct {
		name string
		most int
		set  func(c *api.HeadCopy, s string)
	}{
		{"Label", 47, func(c *api.HeadCopy, s string) { c.Label = s }},
		{"Subsystem", 47, func(c *api.HeadCopy, s string) { c.Subsystem = s }},
		{"UUID", 39, func(c *api.HeadCopy, s string) { c.UUID = s }},
	} {
		for _, n := range []int{0, 1, f.most - 1, f.most} {
			add(api.OK, fmt.Sprintf("%s of %d bytes", f.name, n), func(c *api.HeadCopy) { f.set(c, strings.Repeat("\xff", n)) })
		}
		for _, n := range []int{f.most + 1, f.most + 2, 64, 100, 5000} {
			add(api.ErrHeadField, fmt.Sprintf("%s of %d bytes", f.name, n), func(c *api.HeadCopy) { f.set(c, strings.Repeat("x", n)) })
		}
		for _, s := range []string{"\x00", "\x00a", "a\x00", "a\x00b", strings.Repeat("x", f.most-1) + "\x00"} {
			add(api.ErrHeadField, fmt.Sprintf("%s %q", f.name, s), func(c *api.HeadCopy) { f.set(c, s) })
		}
	}
	for _, n := range []int{0, 1, 32, 63, 65, 128} {
		add(api.ErrHeadField, fmt.Sprintf("Salt of %d bytes", n), func(c *api.HeadCopy) { c.Salt = strings.Repeat("s", n) })
	}
	for _, b := range []string{"\x00", "s", "\xff"} {
		add(api.OK, fmt.Sprintf("Salt of %q", b), func(c *api.HeadCopy) { c.Salt = strings.Repeat(b, 64) })
	}
	for _, s := range []string{"\x00", "a\x00", "\x00a", "a\x00b", strings.Repeat("x", 12286) + "\x00", strings.Repeat("x", 12288), strings.Repeat("x", 1<<23)} {
		add(api.ErrHeadText, fmt.Sprintf("Text of %d bytes, %.8q", len(s), s), func(c *api.HeadCopy) { c.Text = s })
	}
	for _, s := range []string{"", "\n", "\xff\xfe", strings.Repeat("x", 12286), strings.Repeat("x", 12287)} {
		add(api.OK, fmt.Sprintf("Text of %d bytes", len(s)), func(c *api.HeadCopy) { c.Text = s })
	}
	return out
}

// P8.1: each error by itself.
func TestPackErrors(t *testing.T) {
	for _, x := range changes() {
		c := copyOf(1<<14, 5, "{}")
		x.do(&c)
		_, e := header.Pack(c)
		expect(t, x.name, e, x.e)
		checkPack(t, x.name, c)
		checkPack(t, x.name, turned(c))
	}
}

// P8.1: of two that hold at once the one that is named first, and of three.
func TestPackOrder(t *testing.T) {
	all := changes()
	for _, x := range all {
		for _, y := range all {
			if x.e == api.OK || y.e == api.OK {
				continue
			}
			c := copyOf(1<<14, 5, "{}")
			x.do(&c)
			y.do(&c)
			_, e := header.Pack(c)
			expect(t, x.name+", "+y.name, e, min(x.e, y.e))
		}
	}
	c := api.HeadCopy{Text: "\x00"}
	_, e := header.Pack(c)
	expect(t, "nothing right", e, api.ErrHeadSize)
	c.Head = 1 << 14
	_, e = header.Pack(c)
	expect(t, "all but Head wrong", e, api.ErrHeadField)
}

// unpackAs holds Unpack against the model.
func unpackAs(t *testing.T, name string, b []byte, second bool, want api.Errno) {
	t.Helper()
	kept := bytes.Clone(b)
	c, e := header.Unpack(b, second)
	model, why := modelUnpack(b, second)
	if e != want || why != want || c != model {
		t.Errorf("%s, second %v: error %d, not %d (%d); %.200v", name, second, e, want, why, c)
	}
	if e != api.OK && c != (api.HeadCopy{}) {
		t.Errorf("%s: a copy beside an error", name)
	}
	if e == api.OK {
		if again, e := header.Pack(c); e != api.OK || !bytes.Equal(again, b) {
			t.Errorf("%s: Pack of what Unpack tells is something else: error %d", name, e)
		}
	}
	if !bytes.Equal(kept, b) {
		t.Errorf("%s: Unpack changes what is handed in", name)
	}
}

// P8.2: every number of bytes up to two copies, as far as they tell something of themselves.
func TestUnpackLengths(t *testing.T) {
	for _, second := range []bool{false, true} {
		c := copyOf(1<<14, 5, "{}")
		c.Second = second
		good := append(modelPack(c), make([]byte, 1<<16)...)
		for n := range 4096 {
			if n%97 == 0 || n < 20 || n > 4090 {
				unpackAs(t, fmt.Sprint(n, " bytes"), good[:n], second, api.ErrShort)
				unpackAs(t, fmt.Sprint(n, " zeros"), make([]byte, n), second, api.ErrShort)
			}
		}
		for _, n := range []int{4096, 4097, 8192, 1<<14 - 1, 1<<14 + 1, 1 << 15, 1 << 16} {
			unpackAs(t, fmt.Sprint(n, " bytes"), good[:n], second, api.ErrHeadSize)
			unpackAs(t, fmt.Sprint(n, " zeros"), make([]byte, n), second, api.ErrMagic)
		}
		unpackAs(t, "just so many", good[:1<<14], second, api.OK)
		unpackAs(t, "just so many, as the other one", good[:1<<14], !second, api.ErrMagic)
	}
	unpackAs(t, "nothing", nil, false, api.ErrShort)
	unpackAs(t, "nothing", []byte{}, true, api.ErrShort)
}

// P8.2: sizes that the bytes 8 to 15 name, with so many bytes and with others.
func TestUnpackSizes(t *testing.T) {
	for _, head := range heads[:5] {
		c := copyOf(head, 9, "x")
		good := modelPack(c)
		for _, size := range []uint64{0, 1, 4096, 8192, 1<<14 - 1, 1 << 14, 1<<14 + 1, 3 << 13, 1 << 15, 1 << 16, 1 << 17, 1 << 18, 1 << 22, 1 << 23, 1<<32 + uint64(head), 1<<63 + uint64(head), 1 << 63, math.MaxUint64} {
			b := bytes.Clone(good)
			for i := range 8 {
				b[8+i] = byte(size >> (56 - 8*i))
			}
			want := api.ErrHeadSize
			if size == uint64(head) {
				want = api.OK
			}
			unpackAs(t, fmt.Sprintf("head %d named %d", head, size), summed(b), false, want)
		}
	}
	for _, n := range []int{8192, 12288, 3 << 13, 5 << 12} { // no Head, though there are just so many bytes
		b := make([]byte, n)
		copy(b, modelPack(copyOf(1<<14, 9, "x")))
		b[14], b[15] = byte(n>>8), byte(n)
		unpackAs(t, fmt.Sprint("of ", n), summed(b), false, api.ErrHeadSize)
	}
}

// fault is bytes that are changed, and the error that Unpack tells then, if the digest is put right or not.
type fault struct {
	at   int
	with string
	sum  bool
	e    api.Errno
}

func (f fault) name() string { return fmt.Sprintf("%.10q at %d, summed %v", f.with, f.at, f.sum) }

// spoil makes it.
func (f fault) spoil(b []byte) []byte {
	b = bytes.Clone(b)
	copy(b[f.at:], f.with)
	return b
}

// faults of a copy of 16384 bytes with the text "{}".
func faults() []fault {
	var out []fault
	add := func(e api.Errno, at int, with string) { out = append(out, fault{at, with, true, e}) }
	for at := range 6 {
		add(api.ErrMagic, at, "x")
	}
	add(api.ErrMagic, 0, "luks")
	for _, v := range []string{"\x00\x01", "\x00\x03", "\x02\x00", "\x01\x02", "\x00\x00", "\xff\xff"} {
		add(api.ErrVersion, 6, v)
	}
	for _, v := range []string{"\x01", "\x80"} {
		for at := 8; at < 16; at++ {
			add(api.ErrHeadSize, at, v)
		}
	}
	for _, at := range []int{5000, 16383, 25, 110, 300, 600, 17, 448, 479} { // none of them is summed
		out = append(out, fault{at, "\xa5", false, api.ErrHeadSum})
	}
	add(api.ErrHeadField, 16, "\x00\x00\x00\x00\x00\x00\x00\x00")
	add(api.ErrHeadField, 16, "\x40\x00\x00\x00\x00\x00\x00\x01")
	add(api.ErrHeadField, 16, "\x80\x00\x00\x00\x00\x00\x00\x00")
	add(api.ErrHeadField, 16, "\xff\xff\xff\xff\xff\xff\xff\xff")
	for _, f := range [][2]int{{24, 72}, {168, 208}, {208, 256}} {
		size := f[1] - f[0]
		add(api.ErrHeadField, f[0], strings.Repeat("x", size))
		add(api.ErrHeadField, f[0], strings.Repeat("\x00", size-1)+"x")
		add(api.ErrHeadField, f[0], "\x00x"+strings.Repeat("\x00", size-2))
		add(api.ErrHeadField, f[0], "ab\x00c"+strings.Repeat("\x00", size-4))
		add(api.ErrHeadField, f[1]-1, "\x01")
	}
	for at := 72; at < 104; at++ {
		add(api.ErrHeadField, at, "S")
	}
	add(api.ErrHeadField, 72, "sha512")
	add(api.ErrHeadField, 72, "sha25\x00")
	for at := 256; at < 264; at++ {
		add(api.ErrHeadField, at, "\x02")
	}
	for _, at := range []int{264, 265, 300, 446, 447, 480, 481, 500, 511, 512, 513, 2048, 4094, 4095} {
		add(api.ErrHeadField, at, "\x01")
		add(api.ErrHeadField, at, "\x80")
	}
	for _, at := range []int{480, 495, 511} { // no part of what is digested
		out = append(out, fault{at, "\x01", false, api.ErrHeadField})
	}
	for _, at := range []int{4099, 4100, 10000, 16382, 16383} {
		add(api.ErrHeadText, at, "x")
	}
	add(api.ErrHeadText, 4096, "\x00}")
	add(api.ErrHeadText, 4096, strings.Repeat("x", 12288))
	add(api.ErrHeadText, 4096, strings.Repeat("\x00", 12287)+"x")
	return out
}

// P8.2: each fault by itself, in both copies.
func TestUnpackFaults(t *testing.T) {
	for _, second := range []bool{false, true} {
		c := copyOf(1<<14, 5, "{}")
		c.Second = second
		good := modelPack(c)
		for _, f := range faults() {
			b := f.spoil(good)
			if f.sum {
				b = summed(b)
			}
			unpackAs(t, f.name(), b, second, f.e)
			if f.sum && f.e > api.ErrHeadSum { // the digest is asked first
				unpackAs(t, f.name()+", not summed", fault{5001, "\x77", false, 0}.spoil(b), second, api.ErrHeadSum)
			}
		}
	}
}

// P8.2: of two faults at once the one that is named first.
func TestUnpackOrder(t *testing.T) {
	t.Parallel()
	good := modelPack(copyOf(1<<14, 5, "{}"))
	all := faults()
	for i, x := range all {
		for j, y := range all {
			if (i+j)%5 != 0 && x.e == y.e || x.e == api.ErrHeadSum && y.e == api.ErrHeadSum {
				continue
			}
			b := y.spoil(x.spoil(good))
			want := min(x.e, y.e)
			if want != api.ErrHeadSum {
				b = summed(b)
			}
			if _, e := modelUnpack(b, false); e != want {
				continue // one undoes a part of the other
			}
			unpackAs(t, x.name()+" and "+y.name(), b, false, want)
		}
	}
}

// P8.2: every byte of the fixed part, and some behind it, changed by itself, with the digest put right and not.
func TestUnpackEachByte(t *testing.T) {
	t.Parallel()
	for _, second := range []bool{false, true} {
		c := copyOf(1<<14, 0x0101010101010101, "a text")
		c.Second = second
		good := modelPack(c)
		for at := range 1 << 14 {
			if at >= 520 && at%41 != 0 && (at < 4090 || at > 4110) {
				continue
			}
			b := bytes.Clone(good)
			b[at] ^= 1 << (at % 8)
			for _, x := range [][]byte{b, summed(b)} {
				_, want := modelUnpack(x, second)
				unpackAs(t, fmt.Sprintf("byte %d", at), x, second, want)
			}
		}
	}
}

// anyText gives one that has no zero byte, or seldom.
func anyText(r *rand.Rand, most int) string {
	b := make([]byte, r.Intn(most+1))
	for i := range b {
		b[i] = byte(1 + r.Intn(255))
	}
	if len(b) > 0 && r.Intn(40) == 0 {
		b[r.Intn(len(b))] = 0
	}
	return string(b)
}

// P8.1, P8.2, P3: there and back, of any copies.
func TestPackAny(t *testing.T) {
	t.Parallel()
	for seed := range int64(600) {
		r := rand.New(rand.NewSource(seed))
		salt := make([]byte, 64)
		r.Read(salt)
		head := heads[r.Intn(3)]
		c := api.HeadCopy{Second: r.Intn(2) == 0, Head: head, Seq: r.Uint64() >> (1 + r.Intn(62)), Label: anyText(r, 48), Subsystem: anyText(r, 48), UUID: anyText(r, 40), Salt: string(salt), Text: anyText(r, head-4096)}
		checkPack(t, fmt.Sprint("seed ", seed), c)
	}
}
