package scroll

import (
	"strconv"
	"strings"

	"coffer/api"
)

const longest = 20 // digits and zeros that a one form writes out

// numeral is a number's form, cut into its parts.
type numeral struct {
	minus  bool
	whole  string // digits ahead of the point
	part   string // digits behind it
	lessen bool   // the power has a minus
	power  string // its digits
}

// numeral goes on as long as a number's form lets it; false where a digit must come and does not.
func (c *cursor) numeral() (numeral, bool) {
	n := numeral{minus: c.takes('-')}
	if c.takes('0') {
		n.whole = "0"
	} else {
		n.whole = c.digits(len(c.text))
	}
	if n.whole == "" {
		return numeral{}, false
	}
	if c.takes('.') {
		n.part = c.digits(len(c.text))
		if n.part == "" {
			return numeral{}, false
		}
	}
	if c.takes('e') || c.takes('E') {
		n.lessen = c.takes('-')
		if !n.lessen {
			c.takes('+')
		}
		n.power = c.digits(api.MaxPower)
		if n.power == "" {
			return numeral{}, false
		}
	}
	return n, true
}

// form gives the one form; false if it is too long, and so none.
func (n numeral) form() (string, bool) {
	digits := strings.TrimLeft(n.whole+n.part, "0")
	if digits == "" {
		return "0", true
	}
	short := strings.TrimRight(digits, "0")
	k := n.exponent() - len(n.part) + len(digits) - len(short)
	if len(strconv.Itoa(max(k, -k))) > api.MaxPower {
		return "", false
	}
	out := laid(short, k)
	if n.minus {
		out = "-" + out
	}
	return out, len(out) <= api.MaxNumber
}

// exponent tells the power; of at most MaxPower digits, so that strconv takes them.
func (n numeral) exponent() int {
	k, _ := strconv.Atoi("0" + n.power) // there may be none
	if n.lessen {
		return -k
	}
	return k
}

// laid writes d · 10^k, d without zeros at its end.
func laid(d string, k int) string {
	switch {
	case k == 0:
		return d
	case k > 0 && len(d)+k <= longest:
		return d + strings.Repeat("0", k)
	case k < 0 && -k <= longest:
		d = strings.Repeat("0", max(0, 1-k-len(d))) + d
		return d[:len(d)+k] + "." + d[len(d)+k:]
	}
	return d + "e" + strconv.Itoa(k)
}
