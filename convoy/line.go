package convoy

import (
	"sync"
	"sync/atomic"

	"coffer/api"
)

// line is the numbers of one call on their way to its workers.
type line struct {
	n       int
	do      func(i int) api.Errno
	numbers chan int      // has no room: whoever sent a number knows that a worker has it
	over    chan struct{} // closed when no number will come any more
	end     sync.Once
	workers sync.WaitGroup
	errs    []api.Errno  // each number's; the last place is of n, which stands for none
	least   atomic.Int64 // the least number with an error so far; it only falls
}

func newLine(n int, do func(i int) api.Errno) *line {
	l := &line{n: n, do: do, numbers: make(chan int), over: make(chan struct{}), errs: make([]api.Errno, n+1)}
	l.least.Store(int64(n))
	return l
}

// walk gives all numbers to so many workers, and tells the least one with an error when they have ended.
func (l *line) walk(workers int) (int, api.Errno) {
	for range workers {
		l.begin()
	}
	for i := range l.n {
		l.numbers <- i
	}
	l.finish()
	l.workers.Wait()
	least := int(l.least.Load())
	return least, l.errs[least]
}

// begin sets one more worker to work.
func (l *line) begin() {
	l.workers.Add(1)
	go l.work()
}

// work takes numbers till there are no more. A call of do may end the goroutine instead of answering:
// then another one takes its place, or the numbers behind would find nobody.
func (l *line) work() {
	told := false
	defer func() {
		if !told {
			l.begin()
		}
		l.workers.Done()
	}()
	for !told {
		select {
		case i := <-l.numbers:
			if i == l.n-1 {
				l.finish()
			}
			l.call(i)
		case <-l.over:
			told = true
		}
	}
}

// finish tells the workers that no number will come any more. The one who sent the last number and the one
// who has it both know, and either may be the first, so that nobody waits for the other.
func (l *line) finish() {
	l.end.Do(func() { close(l.over) })
}

// call calls do for one number; where do does not come back with an answer, it gave up.
func (l *line) call(i int) {
	e := api.ErrPanic
	defer func() {
		recover()
		l.note(i, e)
	}()
	e = l.do(i)
}

// note keeps a number's error. Another worker may have let the least number fall between the look at it
// and the change: then it is looked at anew.
func (l *line) note(i int, e api.Errno) {
	if e == api.OK {
		return
	}
	l.errs[i] = e
	for least := l.least.Load(); int64(i) < least; least = l.least.Load() {
		l.least.CompareAndSwap(least, int64(i))
	}
}
