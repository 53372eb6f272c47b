package rekey_test

import (
	"fmt"
	"math"
	"math/rand"
	"reflect"
	"slices"
	"strings"
	"testing"

	"coffer/api"
	"coffer/rekey"
)

// idle is a device of some size that does nothing: every operation answers ErrDevice.
type idle struct {
	unit  int
	count uint64
	ops   *int
}

func (d idle) Unit() int                      { return d.unit }
func (d idle) Count() uint64                  { return d.count }
func (d idle) Read(uint64, []byte) api.Errno  { *d.ops++; return api.ErrDevice }
func (d idle) Write(uint64, []byte) api.Errno { *d.ops++; return api.ErrDevice }
func (d idle) Flush() api.Errno               { *d.ops++; return api.ErrDevice }

// worksAs holds Next, Step and Recover against the model, as far as they tell whether a Meta can be worked on: if it can, the first that is asked of the device, or of Commit, answers an error.
func worksAs(t *testing.T, name string, m api.Meta) bool {
	t.Helper()
	works, r := modelWorks(m), m.Rotation
	c := cipher(t, "null", 0)
	ops := 0
	w := rekey.Work{Device: idle{m.Shape.Unit, m.Shape.Count, &ops}, From: c, To: c, Workers: 1, Commit: func(api.Meta) api.Errno { ops++; return 77 }}
	want := api.ErrArg
	switch {
	case !r.On:
		want = api.ErrTurnOff
	case works:
		want = api.OK
	}
	first, count, e := rekey.Next(m)
	expect(t, name+": Next", e, want)
	if works {
		wantFirst, wantCount := modelNext(modelSectors(m.Shape), r)
		expect(t, name+": hotzone", [2]uint64{first, count}, [2]uint64{wantFirst, wantCount})
	} else {
		expect(t, name+": hotzone", [2]uint64{first, count}, [2]uint64{})
	}
	step, back := want, want
	if works {
		step, back = api.ErrDevice, api.ErrDevice
		if r.Done == modelSectors(m.Shape) {
			step = 77
		}
	}
	if r.On && r.Active {
		step = api.ErrTurnOn
	} else {
		back = api.ErrTurnOff
	}
	for i, ask := range []func() (api.Meta, api.Errno){
		func() (api.Meta, api.Errno) {
			got, over, e := rekey.Step(w, m)
			expect(t, name+": over", over, false)
			return got, e
		},
		func() (api.Meta, api.Errno) { return rekey.Recover(w, m) },
	} {
		want, asked := []api.Errno{step, back}[i], 0
		if want == api.ErrDevice || want == 77 {
			asked = 1
		}
		ops = 0
		got, e := ask()
		expect(t, fmt.Sprint(name, ": Step or Recover: ", i), e, want)
		expect(t, fmt.Sprint(name, ": asked: ", i), ops, asked)
		if !same(got, api.Meta{}) {
			t.Errorf("%s: %v beside an error", name, got)
		}
	}
	return works
}

// those gives metadata that can be worked on, of many kinds.
func those(t *testing.T) []api.Meta {
	var out []api.Meta
	for _, mode := range []int{1, 2} {
		for _, back := range []bool{false, true} {
			for _, done := range []uint64{0, 40, 200, 208} {
				shape := shaped(512, 65536, 208)
				m := begun(t, shape, api.Turn{Mode: mode, Hot: 50, Back: back})
				m.Rotation.Area = api.Area{Offset: 40960, Size: 28672}
				m.Epochs = append(m.Epochs, api.Epoch{Number: 9}, api.Epoch{Number: 9}, api.Epoch{Number: 6})
				m = at(m, done)
				out = append(out, m)
				if done < 208 {
					out = append(out, active(m, make([]byte, 50*512)))
				}
			}
		}
	}
	return out
}

// leaf is a number, a text or a flag in metadata.
type leaf struct {
	path string
	v    reflect.Value
}

// leaves gives all of them.
func leaves(m *api.Meta) []leaf {
	var out []leaf
	var walk func(path string, v reflect.Value)
	walk = func(path string, v reflect.Value) {
		switch v.Kind() {
		case reflect.Struct:
			for i := range v.NumField() {
				walk(path+"."+v.Type().Field(i).Name, v.Field(i))
			}
		case reflect.Slice:
			for i := range v.Len() {
				walk(fmt.Sprint(path, "[", i, "]"), v.Index(i))
			}
		default:
			out = append(out, leaf{path, v})
		}
	}
	walk("", reflect.ValueOf(m).Elem())
	return out
}

// put gives a leaf a value that is an edge of something; the i-th of those of its kind.
func put(v reflect.Value, i int) (more bool) {
	numbers := []int64{0, 1, 2, 3, 4, 5, 6, 7, 8, 9, 10, 39, 40, 41, 49, 50, 51, 56, 57, 127, 128, 129, 167, 168, 169, 199, 200, 201, 207, 208, 209, 399, 400, 401, 511, 512, 513, 1024, 2048, 4095, 4096, 4097, 8192, 16383, 16384, 24576, 28671, 28672, 32768, 36864, 40960, 40961, 45056, 65536, 69632, 73728, 94208, 98304, 1 << 22, 1 << 23, 1 << 27, 1<<27 + 4096, 1 << 32, 1<<32 + 1, 1 << 62, math.MaxInt64 - 4095, math.MaxInt64, -1, -512, -4096, -28672, math.MinInt64, math.MinInt64 + 4096}
	texts := []string{"", "x", strings.Repeat("s", 31), strings.Repeat("s", 32), strings.Repeat("s", 33)}
	switch v.Kind() {
	case reflect.Bool:
		v.SetBool(i%2 == 0)
		return i < 1
	case reflect.String:
		v.SetString(texts[i%len(texts)])
		return i < len(texts)-1
	case reflect.Uint64:
		v.SetUint(uint64(numbers[i%len(numbers)]))
	default:
		v.SetInt(numbers[i%len(numbers)])
	}
	return i < len(numbers)-1
}

// 'A Meta can be worked on': each thing by itself at each edge, against the model.
func TestEachThing(t *testing.T) {
	for k, base := range those(t) {
		t.Run(fmt.Sprint("metadata ", k), func(t *testing.T) {
			t.Parallel()
			if !worksAs(t, "as they are", base) {
				t.Error("they can't be worked on")
			}
			yes, no := 0, 0
			for j := range leaves(&base) {
				for i, more := 0, true; more; i++ {
					m := tidy(base)
					l := leaves(&m)[j]
					more = put(l.v, i)
					if worksAs(t, fmt.Sprintf("%s = %.40v", l.path, l.v), m) {
						yes++
					} else {
						no++
					}
				}
			}
			if yes < 500 || no < 300 {
				t.Errorf("%d can be worked on, %d can't", yes, no)
			}
		})
	}
}

// 'A Meta can be worked on': several things at once, against the model; the segments as the rotation says, or not.
func TestSeveralThings(t *testing.T) {
	t.Parallel()
	r := rand.New(rand.NewSource(13))
	all := those(t)
	yes := 0
	for range 20000 {
		m := tidy(all[r.Intn(len(all))])
		what := ""
		for range 1 + r.Intn(3) {
			ls := leaves(&m)
			l := ls[r.Intn(len(ls))]
			put(l.v, r.Intn(100))
			what += fmt.Sprintf("%s = %.40v ", l.path, l.v)
		}
		if modelShape(m.Shape) && m.Rotation.Done <= modelSectors(m.Shape) && r.Intn(4) > 0 {
			m.Segments = modelSegments(modelSectors(m.Shape), m.Rotation)
		}
		switch r.Intn(12) {
		case 0:
			m.Segments = m.Segments[:r.Intn(len(m.Segments)+1)]
		case 1:
			m.Epochs = m.Epochs[:r.Intn(len(m.Epochs)+1)]
		case 2:
			slices.Reverse(m.Segments)
		}
		if worksAs(t, what, m) {
			yes++
		}
	}
	if yes < 2000 {
		t.Errorf("%d can be worked on", yes)
	}
}

// 'A Meta can be worked on': of each number of sectors that are done, just one Count and one length of a Sum.
func TestInTheMidst(t *testing.T) {
	for _, back := range []bool{false, true} {
		for done := uint64(0); done <= 6; done++ {
			base := at(begun(t, small(5), api.Turn{Mode: api.ByJournal, Hot: 2, Back: back}), 0)
			base.Rotation.Done = done
			if done <= 5 {
				base = at(base, done)
			}
			for _, on := range []bool{false, true} {
				for count := uint64(0); count <= 4; count++ {
					for long := 30; long <= 34; long++ {
						for _, sum := range []string{"", strings.Repeat("s", long)} {
							m := tidy(base)
							m.Rotation.Active, m.Rotation.Count, m.Rotation.Sum = on, count, sum
							worksAs(t, fmt.Sprintf("Done %d, Back %v, Active %v, Count %d, Sum of %d", done, back, on, count, len(sum)), m)
						}
					}
				}
			}
		}
	}
}

// 'A Meta can be worked on': the epochs, in any order, with any others.
func TestEpochs(t *testing.T) {
	numbers := []uint64{5, 8, 8, 5, 6, 0, math.MaxUint64}
	base := begun(t, small(5), api.Turn{Mode: api.ByJournal, Hot: 2})
	for set := range 1 << len(numbers) {
		m := tidy(base)
		m.Epochs = nil
		for i, n := range numbers {
			if set>>i&1 == 1 {
				m.Epochs = append(m.Epochs, api.Epoch{Number: n})
			}
		}
		worksAs(t, fmt.Sprint(m.Epochs), m)
	}
	for _, from := range []uint64{5, 8, 9} {
		for _, to := range []uint64{5, 8, 9} {
			m := tidy(base)
			m.Epochs = []api.Epoch{{Number: 9}, {Number: 8}, {Number: 5}}
			m.Rotation.From, m.Rotation.To = from, to
			m.Segments = modelSegments(5, m.Rotation)
			worksAs(t, fmt.Sprintf("from %d to %d", from, to), m)
		}
	}
}

// 'A Meta can be worked on': each area about the one that is needed, in both modes and of each unit.
func TestAreas(t *testing.T) {
	for _, unit := range units {
		for mode := 1; mode <= 2; mode++ {
			for _, hot := range []uint64{1, 2, 3, 8, 9, 128, 129, 256, 257} {
				shape := shaped(unit, 1<<21, 3)
				need := modelNeed(unit, mode, hot)
				for _, offset := range []int64{32768 - 4096, 32768 - 1, 32768, 32768 + 1, 32768 + 4096, 32768 + 1<<21 - need, 32768 + 1<<21 - need + 4096} {
					for _, size := range []int64{need - 4096, need - 1, need, need + 1, need + 4096, 1 << 21, 1<<21 + 4096} {
						m := begun(t, shape, api.Turn{Mode: mode, Hot: hot})
						m.Rotation.Area = api.Area{Offset: offset, Size: size}
						worksAs(t, fmt.Sprintf("unit %d, mode %d, Hot %d, %v", unit, mode, hot, m.Rotation.Area), m)
					}
				}
			}
		}
	}
}

// 'A Meta can be worked on': shapes at their greatest and their least, and beyond.
func TestShapes(t *testing.T) {
	for _, unit := range units {
		for head := 1 << 12; head <= 1<<24; head <<= 1 {
			for _, keys := range []int{0, 4096, 8192, 1<<27 - 4096, 1 << 27, 1<<27 + 4096} {
				least := uint64((2*head + keys) / unit)
				for _, count := range []uint64{least - 1, least, least + 1, 1<<32 - 1, 1 << 32, 1<<32 + 1, 1 << 52, 1 << 55, math.MaxUint64} {
					for _, by := range []int{-1, 0, 1} {
						m := begun(t, small(5), api.Turn{Mode: api.ByDigests, Hot: 1})
						m.Shape = api.Shape{Unit: unit, Head: head + by, Keys: keys, Count: count}
						m.Rotation.Area = api.Area{Offset: int64(2*head + keys - 4096), Size: 4096}
						m.Segments = []api.Segment{{Count: count - least, Epoch: 5}}
						if works := worksAs(t, fmt.Sprint(m.Shape), m); works != (by == 0 && head >= 1<<14 && head <= 1<<22 && keys >= 4096 && keys <= 1<<27 && count > least && count <= 1<<32) {
							t.Errorf("%v: %v", m.Shape, works)
						}
					}
				}
			}
		}
	}
}
