package spring

import "coffer/api"

// Judge tells whether that may be of random bytes.
func Judge(h api.Health) api.Errno {
	if !mayBe(h) {
		return api.ErrArg
	}
	if isSick(h) {
		return api.ErrSick
	}
	return api.OK
}

func within(n, least, most int64) bool { return least <= n && n <= most }

// mayBe tells whether some bytes, enough of them, could have been found so. Count is asked first: the other bounds are reckoned of it.
func mayBe(h api.Health) bool {
	c := int64(h.Count)
	if !within(c, api.MinTested, api.MaxTested) {
		return false
	}
	for _, w := range h.Ends {
		if !within(w.Re, -c, c) || !within(w.Im, -c, c) {
			return false
		}
	}
	return within(int64(h.Run), 1, c) &&
		within(int64(h.Most), 1, min(c, api.TestWindow)) &&
		within(int64(h.Ones), 0, 8*c) &&
		within(int64(h.Turned), 0, 8*c-1) &&
		within(h.Poker, 0, 4*c*c) &&
		within(h.Far, 0, c*c)
}

// isSick is asked of numbers within mayBe's bounds alone: so no product is too great.
func isSick(h api.Health) bool {
	c := int64(h.Count)
	for _, w := range h.Ends {
		if square(w) > 32*c {
			return true
		}
	}
	ones := 2*int64(h.Ones) - 8*c
	pairs := 8*c - 1 // of bits that stand one behind the other
	turned := 2*int64(h.Turned) - pairs
	return h.Run > longestGood(h.Count) ||
		h.Most > 20 ||
		ones*ones > 288*c ||
		turned*turned > 36*pairs ||
		16*h.Poker-4*c*c > 200*c ||
		h.Far > 64*c
}

// longestGood tells the longest run that random bytes may have.
func longestGood(count int) int {
	if count <= 65536 {
		return 4
	}
	return 6
}
