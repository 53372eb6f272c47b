package spring

import (
	"math/bits"

	"coffer/api"
)

// Test tells what the tests find of bytes.
func Test(b []byte) (api.Health, api.Errno) {
	if len(b) > api.MaxTested {
		return api.Health{}, api.ErrLong
	}
	ends, far := walk(b)
	return api.Health{
		Count:  len(b),
		Run:    longestRun(b),
		Most:   mostInWindow(b),
		Ones:   ones(b),
		Ends:   ends,
		Far:    far,
		Poker:  poker(b),
		Turned: turned(b),
	}, api.OK
}

func longestRun(b []byte) int {
	longest, run := 0, 0
	for i, x := range b {
		if i > 0 && x != b[i-1] {
			run = 0
		}
		run++
		longest = max(longest, run)
	}
	return longest
}

// mostInWindow has the window's end go on; a window that is not yet full is part of the first full one, and so never has more.
func mostInWindow(b []byte) int {
	var times [256]int
	most := 0
	for i, x := range b {
		if i >= api.TestWindow {
			times[b[i-api.TestWindow]]--
		}
		times[x]++
		most = max(most, times[x])
	}
	return most
}

func ones(b []byte) int {
	n := 0
	for _, x := range b {
		n += bits.OnesCount8(x)
	}
	return n
}

// turned holds each byte against itself moved down by a bit, with the last bit of the byte ahead moved in.
func turned(b []byte) int {
	n := 0
	for i, x := range b {
		ahead := x >> 7 // the first bit has none ahead: take its like
		if i > 0 {
			ahead = b[i-1] & 1
		}
		n += bits.OnesCount8(x ^ (x>>1 | ahead<<7))
	}
	return n
}

func poker(b []byte) int64 {
	var times [16]int64
	for _, x := range b {
		times[x>>4]++
		times[x&15]++
	}
	sum := int64(0)
	for _, n := range times {
		sum += n * n
	}
	return sum
}

// walker gives walk number k: each call takes a byte's step, and tells the place.
func walker(k int) func(x byte) complex128 {
	var place complex128
	down := 6 - 2*k
	return func(x byte) complex128 {
		place += powerOfI(x >> down & 3)
		return place
	}
}

func powerOfI(n byte) complex128 {
	return [4]complex128{1, 1i, -1, -1i}[n]
}

// whole tells a place in whole numbers; it is one, as each step is.
func whole(place complex128) api.Walk {
	return api.Walk{Re: int64(real(place)), Im: int64(imag(place))}
}

func square(w api.Walk) int64 { return w.Re*w.Re + w.Im*w.Im }

// walk tells where the four walks end, and how far the first one comes.
func walk(b []byte) (ends [4]api.Walk, far int64) {
	for k := range ends {
		step := walker(k)
		for _, x := range b {
			ends[k] = whole(step(x))
			if k == 0 {
				far = max(far, square(ends[k]))
			}
		}
	}
	return ends, far
}
