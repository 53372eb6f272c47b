package convoy_test

import (
	"errors"
	"fmt"
	"math/rand"
	"runtime"
	"sync"
	"sync/atomic"
	"testing"
	"time"

	"coffer/api"
	"coffer/convoy"
)

// watch counts the calls of each number, and how many are under way at one time.
type watch struct {
	mu        sync.Mutex
	calls     []int
	now, most int
}

func newWatch(n int) *watch { return &watch{calls: make([]int, n)} }

func (w *watch) in(i int) {
	w.mu.Lock()
	defer w.mu.Unlock()
	w.calls[i]++
	w.now++
	w.most = max(w.most, w.now)
}

func (w *watch) out() {
	w.mu.Lock()
	defer w.mu.Unlock()
	w.now--
}

// over wraps do, so that its calls are watched, and each of them lets others run.
func (w *watch) over(do func(i int) api.Errno) func(i int) api.Errno {
	return func(i int) api.Errno {
		w.in(i)
		defer w.out()
		runtime.Gosched()
		return do(i)
	}
}

// check tells whether each number was called once, by so many workers at most, all of which have answered.
func (w *watch) check(t *testing.T, name string, workers int) {
	t.Helper()
	for i, k := range w.calls {
		if k != 1 {
			t.Errorf("%s: %d is called %d times", name, i, k)
		}
	}
	if w.now != 0 || w.most > workers {
		t.Errorf("%s: %d at one time, %d under way behind the answer", name, w.most, w.now)
	}
}

// still waits till no more goroutines run than before.
func still(t *testing.T, before int) {
	t.Helper()
	for range 1000 {
		if runtime.NumGoroutine() <= before {
			return
		}
		time.Sleep(time.Millisecond)
	}
	t.Errorf("goroutines are left: %d, not %d", runtime.NumGoroutine(), before)
}

func fine(int) api.Errno { return api.OK }

// P12.1: each number once, at most so many at one time, n and OK, nothing left running.
func TestEach(t *testing.T) {
	before := runtime.NumGoroutine()
	for workers := 1; workers <= 16; workers++ {
		for _, n := range []int{0, 1, 2, 3, workers - 1, workers, workers + 1, 60, 4095, 4096} {
			name := fmt.Sprintf("Each(%d, %d)", workers, n)
			w := newWatch(n)
			got, e := convoy.Each(workers, n, w.over(fine))
			expect(t, name, got, n)
			expect(t, name+": error", e, api.OK)
			w.check(t, name, workers)
		}
	}
	still(t, before)
}

// P12.1: wherever errors are, the least number that has one, its own error, and all calls.
func TestEachErrors(t *testing.T) {
	r := rand.New(rand.NewSource(1))
	for round := range 600 {
		workers, n := 1+r.Intn(16), 1+r.Intn(80)
		errs := make([]api.Errno, n)
		for range r.Intn(8) {
			errs[r.Intn(n)] = api.Errno(r.Intn(200) - 50)
		}
		want, e := n, api.OK
		for i := n - 1; i >= 0; i-- {
			if errs[i] != api.OK {
				want, e = i, errs[i]
			}
		}
		w := newWatch(n)
		got, f := convoy.Each(workers, n, w.over(func(i int) api.Errno { return errs[i] }))
		name := fmt.Sprintf("round %d", round)
		expect(t, name, got, want)
		expect(t, name+": error", f, e)
		w.check(t, name, workers)
	}
}

// P12.1: one error at each place of it, with each number of workers.
func TestEachOneError(t *testing.T) {
	const n = 20
	for workers := 1; workers <= 16; workers++ {
		for at := range n {
			for _, e := range []api.Errno{api.ErrNil, api.ErrPanic, api.ErrTweakLen, -1, 1 << 40} {
				got, f := convoy.Each(workers, n, func(i int) api.Errno {
					if i == at {
						return e
					}
					return api.OK
				})
				expect(t, fmt.Sprint("error at ", at), got, at)
				expect(t, fmt.Sprint("error at ", at), f, e)
			}
		}
	}
}

// P12.1: every number has an error of its own, and the least one is told last or first of all.
func TestEachLateAndEarly(t *testing.T) {
	const n = 40
	own := func(i int) api.Errno { return api.Errno(100 + i) }
	for workers := 2; workers <= 16; workers++ {
		var behind sync.WaitGroup
		behind.Add(n - 1)
		got, e := convoy.Each(workers, n, func(i int) api.Errno {
			if i == 0 {
				behind.Wait()
			} else {
				defer behind.Done()
			}
			return own(i)
		})
		expect(t, "the least one is late", got, 0)
		expect(t, "the least one is late", e, own(0))
		ahead := make(chan struct{})
		got, e = convoy.Each(workers, n, func(i int) api.Errno {
			if i == 0 {
				defer close(ahead)
			} else {
				<-ahead
			}
			return own(i)
		})
		expect(t, "the least one is early", got, 0)
		expect(t, "the least one is early", e, own(0))
	}
}

// P12.1: errors fall from the greatest number down, each of them one less than the one ahead of it.
func TestEachFalls(t *testing.T) {
	const n = 16
	for round := range 50 {
		turn := make([]chan struct{}, n+1)
		for i := range turn {
			turn[i] = make(chan struct{})
		}
		close(turn[n])
		got, e := convoy.Each(n, n, func(i int) api.Errno {
			<-turn[i+1]
			defer close(turn[i])
			if i < round%n {
				return api.OK
			}
			return api.Errno(i + 1)
		})
		expect(t, "falling", got, round%n)
		expect(t, "falling", e, api.Errno(round%n+1))
	}
}

// giveUps lists ways in which a call does not come back.
func giveUps() map[string]func() {
	return map[string]func(){
		"a text":   func() { panic("given up") },
		"nil":      func() { panic(nil) },
		"an error": func() { panic(errors.New("given up")) },
		"an Errno": func() { panic(api.ErrLong) },
		"a place": func() {
			var list []int
			list[len(list)]++
		},
		"a map": func() {
			var m map[int]int
			m[1] = 2
		},
		"a pointer": func() {
			var p *int
			*p = 1
		},
		"twice": func() {
			defer func() { panic("again") }()
			panic("given up")
		},
		"its goroutine ends": runtime.Goexit,
	}
}

// P12.1: a panic is ErrPanic of its number, the others are called all the same; rule 1: the call ends even where do ends its goroutine.
func TestEachGivesUp(t *testing.T) {
	before := runtime.NumGoroutine()
	for name, giveUp := range giveUps() {
		for _, workers := range []int{1, 2, 7, 16} {
			for _, n := range []int{1, 2, 33} {
				for _, at := range []int{0, 1, n / 2, n - 1} {
					w := newWatch(n)
					got, e := convoy.Each(workers, n, w.over(func(i int) api.Errno {
						if i == at || i == n-1 {
							giveUp()
						}
						return api.OK
					}))
					expect(t, name, got, min(at, n-1))
					expect(t, name, e, api.ErrPanic)
					w.check(t, name, workers)
				}
				w := newWatch(n)
				got, e := convoy.Each(workers, n, w.over(func(i int) api.Errno {
					giveUp()
					return api.OK
				}))
				expect(t, name+", all", got, 0)
				expect(t, name+", all", e, api.ErrPanic)
				w.check(t, name+", all", workers)
			}
		}
	}
	still(t, before)
}

// P12.1: a panic is held against errors as an error is.
func TestEachPanicAndError(t *testing.T) {
	for workers := 1; workers <= 16; workers++ {
		for _, c := range []struct {
			panics, errs, want int
			e                  api.Errno
		}{{3, 8, 3, api.ErrPanic}, {8, 3, 3, 44}} {
			got, e := convoy.Each(workers, 12, func(i int) api.Errno {
				switch i {
				case c.panics:
					panic(i)
				case c.errs:
					return 44
				}
				return api.OK
			})
			expect(t, "a panic and an error", got, c.want)
			expect(t, "a panic and an error", e, c.e)
		}
	}
}

// The chapter's words: the workers are goroutines beside the caller's, and so many of them do work at one time, where so many numbers are there.
func TestEachAllAtWork(t *testing.T) {
	for workers := 1; workers <= 16; workers++ {
		var all sync.WaitGroup
		all.Add(workers)
		n, e := convoy.Each(workers, workers, func(int) api.Errno {
			all.Done()
			all.Wait()
			return api.OK
		})
		expect(t, "all at work", n, workers)
		expect(t, "all at work", e, api.OK)
	}
}

// P12.1: no more goroutines than workers are begun, nor more than there are numbers.
func TestEachGoroutines(t *testing.T) {
	before := runtime.NumGoroutine()
	for workers := 1; workers <= 16; workers++ {
		for _, n := range []int{1, 3, 50} {
			var most atomic.Int64
			convoy.Each(workers, n, func(int) api.Errno {
				if now := int64(runtime.NumGoroutine() - before); now > most.Load() {
					most.Store(now)
				}
				return api.OK
			})
			if most.Load() > int64(min(workers, n)) {
				t.Errorf("%d workers, %d numbers: %d goroutines", workers, n, most.Load())
			}
			still(t, before)
		}
	}
}

// P12.5: a call within another one's do, and within that one's.
func TestEachWithin(t *testing.T) {
	before := runtime.NumGoroutine()
	for _, workers := range []int{1, 2, 5, 16} {
		var calls atomic.Int64
		n, e := convoy.Each(workers, 6, func(i int) api.Errno {
			_, e := convoy.Each(workers, 5, func(j int) api.Errno {
				n, e := convoy.Each(workers, 4, func(k int) api.Errno {
					calls.Add(1)
					if i == 4 && j == 2 && k == 3 {
						panic("innermost")
					}
					return api.OK
				})
				if e == api.ErrPanic && n == 3 {
					return 77
				}
				return e
			})
			return e
		})
		expect(t, "within", n, 4)
		expect(t, "within", e, 77)
		expect(t, "within: calls", calls.Load(), 6*5*4)
	}
	still(t, before)
}

// P12.5: calls of several goroutines at one time do not meet.
func TestEachTogether(t *testing.T) {
	before := runtime.NumGoroutine()
	var all sync.WaitGroup
	for g := range 12 {
		all.Go(func() {
			for round := range 20 {
				workers, n, at := 1+(g+round)%16, 30+g, (g*7+round)%30
				w := newWatch(n)
				got, e := convoy.Each(workers, n, w.over(func(i int) api.Errno {
					if i >= at {
						return api.Errno(1000*g + i + 1)
					}
					return api.OK
				}))
				expect(t, "together", got, at)
				expect(t, "together", e, api.Errno(1000*g+at+1))
				w.check(t, "together", workers)
			}
		})
	}
	all.Wait()
	still(t, before)
}
