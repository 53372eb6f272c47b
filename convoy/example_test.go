package convoy_test

import (
	"slices"
	"sync/atomic"
	"testing"

	"coffer/api"
	"coffer/convoy"
	"coffer/digest"
)

// Example 1.
func TestExampleEach(t *testing.T) {
	var calls atomic.Int64
	n, e := convoy.Each(3, 5, func(i int) api.Errno {
		calls.Add(1)
		switch i {
		case 3:
			return 7
		case 1:
			return 9
		}
		return api.OK
	})
	expect(t, "the number", n, 1)
	expect(t, "its error", e, 9)
	expect(t, "calls", calls.Load(), 5)
}

// Example 2.
func TestExampleDigests(t *testing.T) {
	sums, e := convoy.Digests(2, 512, make([]byte, 1024))
	expect(t, "Digests", e, api.OK)
	expect(t, "digests", len(sums), 2)
	expect(t, "the first one", digest.Hex([]byte(sums[0][:4])), "076a27c7")
	expect(t, "both", sums[0], sums[1])
	expect(t, "bytes", len(sums[0]), 32)
}

// Example 3.
func TestExampleRefused(t *testing.T) {
	c := cipher(t, "aes128-xts-plain64", 1)
	for _, x := range []struct {
		name string
		ask  func() ([]byte, api.Errno)
		e    api.Errno
	}{
		{"no workers", func() ([]byte, api.Errno) { return convoy.Seal(c, 0, 512, 0, make([]byte, 512)) }, api.ErrArg},
		{"511 bytes", func() ([]byte, api.Errno) { return convoy.Seal(c, 1, 512, 0, make([]byte, 511)) }, api.ErrShort},
		{"no cipher", func() ([]byte, api.Errno) { return convoy.Seal(nil, 0, 512, 0, make([]byte, 512)) }, api.ErrNil},
	} {
		out, e := x.ask()
		expect(t, x.name, e, x.e)
		expect(t, x.name+": bytes", slices.Equal(out, nil), true)
	}
}
