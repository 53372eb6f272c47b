package rekey_test

import (
	"fmt"
	"math"
	"math/rand"
	"slices"
	"testing"

	"coffer/api"
	"coffer/rekey"
)

// wrong is a thing that a call refuses. The rank is its place in the order in which the chapter names them.
type wrong[A any] struct {
	name string
	rank int
	e    api.Errno
	do   func(a *A)
}

// pairs calls with each thing alone, and with each two of them: the one of the lower rank is told. It is done last, so that it stands where both are of one field.
func pairs[A any](all []wrong[A], ask func(name string, e api.Errno, do ...func(a *A))) {
	for i, a := range all {
		ask(a.name, a.e, a.do)
		for _, b := range all[i+1:] {
			first, last := b, a
			if b.rank < a.rank {
				first, last = a, b
			}
			ask(a.name+"; "+b.name, last.e, first.do, last.do)
		}
	}
}

// beginning is what Begin is called with.
type beginning struct {
	m    api.Meta
	to   api.Epoch
	area api.Area
	turn api.Turn
}

// some gives a beginning that may be: two epochs, the data under the older one.
func some(shape api.Shape, mode int, hot uint64, back bool) beginning {
	m := still(shape)
	m.Epochs = append(m.Epochs, api.Epoch{Number: 6, Cipher: "null"}, api.Epoch{Number: 6, Cipher: "other"})
	need := modelNeed(shape.Unit, mode, hot)
	return beginning{
		m:    m,
		to:   api.Epoch{Number: 8, Cipher: "aes", Nonce: "n8", Sealed: "s8", Check: "c8"},
		area: api.Area{Offset: int64(2*shape.Head+shape.Keys) - need, Size: need},
		turn: api.Turn{Cipher: "aes", Mode: mode, Hot: hot, Back: back},
	}
}

// P13.2: what Begin answers, in all its fields.
func TestBegin(t *testing.T) {
	for _, unit := range units {
		for mode := 1; mode <= 2; mode++ {
			for _, hot := range []uint64{1, 8, 9, 128, 129, 4096} {
				for _, back := range []bool{false, true} {
					b := some(shaped(unit, 1<<24, 7), mode, hot, back)
					b.m.Rotation = api.Rotation{From: 1, To: 2, Done: 3, Active: true, Count: 4, Sum: "sum"} // it is not on
					got, e := rekey.Begin(b.m, b.to, b.area, b.turn)
					want := tidy(b.m)
					want.Epochs = append(want.Epochs, b.to)
					want.Rotation = api.Rotation{On: true, From: 5, To: 8, Back: back, Mode: mode, Hot: hot, Area: b.area}
					want.Segments = []api.Segment{{Start: 0, Count: 7, Epoch: 5}}
					name := fmt.Sprintf("unit %d, mode %d, Hot %d, Back %v", unit, mode, hot, back)
					expect(t, name+": error", e, api.OK)
					if !same(got, want) {
						t.Errorf("%s: %v, not %v", name, got, want)
					}
					first, count, e := rekey.Next(got)
					wantFirst, wantCount := modelNext(7, want.Rotation)
					expect(t, name+": Next", [2]uint64{first, count}, [2]uint64{wantFirst, wantCount})
					expect(t, name+": error of Next", e, api.OK)
				}
			}
		}
	}
}

// P13.2: the area may be greater than needed, and lie anywhere in the keyslots area; a keyslot's area is not asked for.
func TestBeginArea(t *testing.T) {
	shape := shaped(1024, 16384, 3)
	for offset := int64(32768 - 8192); offset <= 32768+16384+4096; offset += 512 {
		for size := int64(-4096); size <= 20480; size += 512 {
			b := some(shape, api.ByJournal, 5, false)
			b.area = api.Area{Offset: offset, Size: size}
			_, e := rekey.Begin(b.m, b.to, b.area, b.turn)
			may := offset%4096 == 0 && size%4096 == 0 && size >= 8192 && offset >= 32768 && offset+size <= 32768+16384
			want := api.OK
			if !may {
				want = api.ErrArg
			}
			expect(t, fmt.Sprint("area ", b.area), e, want)
		}
	}
}

// notBegun lists what Begin refuses.
func notBegun() []wrong[beginning] {
	var out []wrong[beginning]
	add := func(rank int, e api.Errno, name string, do func(a *beginning)) {
		out = append(out, wrong[beginning]{name, rank, e, do})
	}
	add(1, api.ErrArg, "unit 256", func(a *beginning) { a.m.Shape.Unit = 256 })
	add(1, api.ErrArg, "Head 3 · 16384", func(a *beginning) { a.m.Shape.Head = 49152 })
	add(1, api.ErrArg, "Head below", func(a *beginning) { a.m.Shape.Head = 8192 })
	add(1, api.ErrArg, "Head beyond", func(a *beginning) { a.m.Shape.Head = 1 << 23 })
	add(1, api.ErrArg, "Keys 0", func(a *beginning) { a.m.Shape.Keys = 0 })
	add(1, api.ErrArg, "Keys in part", func(a *beginning) { a.m.Shape.Keys = 4096 + 512 })
	add(1, api.ErrArg, "Keys beyond", func(a *beginning) { a.m.Shape.Keys = 1<<27 + 4096 })
	add(1, api.ErrArg, "no data", func(a *beginning) { a.m.Shape.Count = 80 })
	add(1, api.ErrArg, "Count beyond", func(a *beginning) { a.m.Shape.Count = 1<<32 + 1 })
	add(1, api.ErrArg, "Count that comes round", func(a *beginning) { a.m.Shape.Count = 1 << 63 })
	add(1, api.ErrArg, "no epochs", func(a *beginning) { a.m.Epochs = nil })
	add(2, api.ErrTurnOn, "a rotation that is on", func(a *beginning) { a.m.Rotation.On = true })
	add(2, api.ErrTurnOn, "a rotation that is on and Active", func(a *beginning) { a.m.Rotation = api.Rotation{On: true, Active: true} })
	for _, mode := range []int{math.MinInt, -1, 0, 3, math.MaxInt} {
		add(3, api.ErrArg, fmt.Sprint("mode ", mode), func(a *beginning) { a.turn.Mode = mode })
	}
	for _, hot := range []uint64{0, 17, 4097, 1 << 55, math.MaxUint64} { // 17: the area is too small for it
		add(3, api.ErrArg, fmt.Sprint("Hot ", hot), func(a *beginning) { a.turn.Hot = hot })
	}
	for _, n := range []uint64{0, 4, 5, 6} {
		add(3, api.ErrArg, fmt.Sprint("epoch ", n), func(a *beginning) { a.to.Number = n })
	}
	add(3, api.ErrArg, "another cipher", func(a *beginning) { a.to.Cipher = "null" })
	add(3, api.ErrArg, "a turn's other cipher", func(a *beginning) { a.turn.Cipher = "" })
	for _, v := range []api.Area{{Offset: 32768}, {Offset: 32768, Size: 4096}, {Offset: 32768 - 4096, Size: 8192}, {Offset: 36864, Size: 8192}, {Offset: 0, Size: 8192}, {Offset: 32768 + 512, Size: 4096}, {Offset: 32768, Size: 8191}, {Offset: math.MaxInt64 - 4095, Size: 8192}, {Offset: math.MinInt64, Size: 8192}, {Offset: 32768, Size: math.MinInt64}, {Offset: 32768, Size: math.MaxInt64 - 4095}, {Offset: 32768, Size: -8192}} {
		add(3, api.ErrArg, fmt.Sprint("area ", v), func(a *beginning) { a.area = v })
	}
	add(3, api.ErrArg, "no segments", func(a *beginning) { a.m.Segments = nil })
	add(3, api.ErrArg, "two segments", func(a *beginning) { a.m.Segments = []api.Segment{{Count: 4, Epoch: 5}, {Start: 4, Count: 1, Epoch: 5}} })
	add(3, api.ErrArg, "two whole segments", func(a *beginning) { a.m.Segments = []api.Segment{{Count: 5, Epoch: 5}, {Count: 5, Epoch: 5}} })
	add(3, api.ErrArg, "a segment from 1 on", func(a *beginning) { a.m.Segments = []api.Segment{{Start: 1, Count: 5, Epoch: 5}} })
	add(3, api.ErrArg, "a shorter segment", func(a *beginning) { a.m.Segments = []api.Segment{{Count: 4, Epoch: 5}} })
	add(3, api.ErrArg, "a longer segment", func(a *beginning) { a.m.Segments = []api.Segment{{Count: 6, Epoch: 5}} })
	add(3, api.ErrArg, "a segment of no epoch", func(a *beginning) { a.m.Segments = []api.Segment{{Count: 5, Epoch: 4}} })
	add(3, api.ErrArg, "a segment of the new epoch", func(a *beginning) { a.m.Segments = []api.Segment{{Count: 5, Epoch: 8}} })
	add(3, api.ErrArg, "a segment of two epochs", func(a *beginning) { a.m.Segments = []api.Segment{{Count: 5, Epoch: 6}} })
	add(3, api.ErrArg, "an epoch twice", func(a *beginning) { a.m.Epochs = append(slices.Clone(a.m.Epochs), api.Epoch{Number: 5}) })
	return out
}

// P13.2: its refusals in their order, each two of them.
func TestBeginRefused(t *testing.T) {
	pairs(notBegun(), func(name string, e api.Errno, do ...func(a *beginning)) {
		a := some(shaped(512, 8192, 5), api.ByJournal, 16, false)
		a.m.Shape.Count = 85
		for _, change := range do {
			change(&a)
		}
		got, why := rekey.Begin(a.m, a.to, a.area, a.turn)
		expect(t, name, why, e)
		if !same(got, api.Meta{}) {
			t.Errorf("%s: %v beside an error", name, got)
		}
	})
}

// P13.2: what is not looked at makes no difference: there the new epoch may have any number above the others.
func TestBeginAnything(t *testing.T) {
	b := some(small(1), api.ByDigests, 128, true)
	b.m.Slots, b.m.Tokens = nil, nil
	b.m.Epochs = []api.Epoch{{Number: math.MaxUint64 - 1}, {Number: 0}}
	b.m.Segments[0].Epoch = math.MaxUint64 - 1
	b.to = api.Epoch{Number: math.MaxUint64}
	b.turn.Cipher = ""
	got, e := rekey.Begin(b.m, b.to, b.area, b.turn)
	expect(t, "error", e, api.OK)
	expect(t, "rotation", got.Rotation, api.Rotation{On: true, From: math.MaxUint64 - 1, To: math.MaxUint64, Back: true, Mode: 2, Hot: 128, Area: b.area})
	expect(t, "epochs", len(got.Epochs), 3)
}

// P13.2: several things at once, against the model.
func TestBeginRandom(t *testing.T) {
	r := rand.New(rand.NewSource(13))
	all := notBegun()
	met := map[api.Errno]int{}
	for range 20000 {
		unit := units[r.Intn(4)]
		mode, hot := 1+r.Intn(2), uint64(1+r.Intn(40))
		b := some(shaped(unit, 4096*(40+r.Intn(3)), 1+r.Intn(9)), mode, hot, r.Intn(2) == 0)
		for r.Intn(2) == 0 {
			all[r.Intn(len(all))].do(&b)
		}
		for r.Intn(3) == 0 {
			b.area.Size += 4096 * int64(r.Intn(5)-2)
			b.area.Offset += 4096 * int64(r.Intn(5)-2)
		}
		want := modelBegins(b.m, b.to, b.area, b.turn)
		_, e := rekey.Begin(b.m, b.to, b.area, b.turn)
		expect(t, fmt.Sprint(b), e, want)
		met[want]++
	}
	for _, e := range []api.Errno{api.OK, api.ErrArg, api.ErrTurnOn} {
		if met[e] < 500 {
			t.Errorf("error %d came %d times", e, met[e])
		}
	}
}
