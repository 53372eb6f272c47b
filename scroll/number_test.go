package scroll_test

import (
	"math"
	"math/big"
	"math/rand"
	"strconv"
	"strings"
	"testing"

	"coffer/api"
	"coffer/scroll"
)

// normal holds Normal of a number against the second reckoning.
func normal(t *testing.T, number string) (string, api.Errno) {
	t.Helper()
	want, why := modelNormal(number)
	got, e := scroll.Normal(number)
	if got != want || e != why {
		t.Errorf("Normal(%.80q): %q, %d, not %q, %d", number, got, e, want, why)
	}
	return got, e
}

func zeros(n int) string { return strings.Repeat("0", n) }

// P7.5: each branch on both sides of its bounds, 0 in all its forms, great powers.
func TestNormalForms(t *testing.T) {
	ones := func(n int) string { return strings.Repeat("1", n) }
	for in, want := range map[string]string{
		"0": "0", "-0": "0", "0.0": "0", "-0.000": "0", "0e0": "0", "0E+999999": "0", "-0.0e-999999": "0", "0e000000": "0", "0." + zeros(62): "0", "-0." + zeros(61): "0",
		"1": "1", "-1": "-1", "1.0": "1", "1.50": "1.5", "-7.50": "-7.5", "10": "10", "1e0": "1", "1e-0": "1", "1E+1": "10", "100e-2": "1", "120e-2": "1.2", "1200": "1200", "0.12e4": "1200", "0.0012e6": "1200",

		"1e19": "1" + zeros(19), "1e20": "1e20", "-1e19": "-1" + zeros(19), "12e18": "12" + zeros(18), "12e19": "12e19", ones(19) + "0": ones(19) + "0", ones(19) + "e1": ones(19) + "0", ones(19) + "e2": ones(19) + "e2", ones(20): ones(20), ones(20) + "0": ones(20) + "e1", ones(20) + "e1": ones(20) + "e1", "1" + zeros(19): "1" + zeros(19), "1" + zeros(20): "1e20",
		ones(64): ones(64), ones(62) + "00": ones(62) + "e2", ones(21): ones(21),

		"1e-1": "0.1", "12e-1": "1.2", "12e-2": "0.12", "12e-3": "0.012", "1e-20": "0." + zeros(19) + "1", "1e-21": "1e-21", "-1e-20": "-0." + zeros(19) + "1", ones(20) + "e-20": "0." + ones(20), ones(21) + "e-20": "1." + ones(20), ones(21) + "e-21": ones(21) + "e-21", ones(19) + "e-20": "0.0" + ones(19), "123e-20": "0." + zeros(17) + "123", "1230e-21": "0." + zeros(17) + "123", "0.000001": "0.000001", "10e-21": "0." + zeros(19) + "1",

		"1e999999": "1e999999", "1e-999999": "1e-999999", "0.1e999999": "1e999998", "10e-999999": "1e-999998", "-9e999999": "-9e999999", "100e-999999": "1e-999997",
		"1e000001": "10", "1e+000019": "1" + zeros(19), "1e-000001": "0.1",
	} {
		if got, e := normal(t, in); e != api.OK || got != want {
			t.Errorf("Normal(%q): %q, %d, not %q", in, got, e, want)
		}
	}
}

// P7.5: what has no number's form, too many bytes, or a one form that may not be.
func TestNormalRefuses(t *testing.T) {
	ones := func(n int) string { return strings.Repeat("1", n) }
	for _, in := range []string{
		"", " ", "-", "+1", "--1", "00", "01", "-01", "1.", ".1", "-.1", "1..1", "1.1.1", "1e", "1e+", "1e-", "1e+-1", "1ee1", "1e1.0", "1e1234567", "1e0000001", "1e-1234567", " 1", "1 ", "1x", "x", "0x1", "1_0", "1e1e1", "Inf", "NaN", "1\x00", "\x00", "١", "1e5 ", "1,5", "-e1", "e1", "1.e1",
		ones(65), "-" + ones(64), "0." + zeros(63), "1." + zeros(63), "-0." + zeros(62),
		"10e999999", "0.1e-999999", "1.5e-999999", "-10e999999", "100000e999999", "0.000001e-999994",
		"1." + ones(60), "-1." + ones(59), "0." + ones(61), "-0." + ones(60), ones(61) + "e-21", "0.0" + ones(61),
	} {
		if got, e := normal(t, in); got != "" || e != api.ErrScrollNumber {
			t.Errorf("Normal(%q): %q, %d", in, got, e)
		}
	}
	for _, in := range []string{ones(64), "-" + ones(63), "0." + zeros(62), "1." + zeros(62), "1." + ones(59), "-1." + ones(58), "0." + ones(60), "-0." + ones(59), "99e999999", "11e-999999", "0.1e-999998", "10e999998", "0.00000000001e-999988"} {
		if _, e := normal(t, in); e != api.OK {
			t.Errorf("Normal(%q): %d", in, e)
		}
	}
	long := strings.Repeat("1", 1<<22)
	if got, e := scroll.Normal(long); got != "" || e != api.ErrScrollNumber {
		t.Errorf("Normal of many digits: %d", e)
	}
}

// P7.5: every text of up to seven bytes out of those that a number is made of; random digits with a point and a power anywhere.
func TestNormalAgainstModel(t *testing.T) {
	var try func(s string, left int)
	try = func(s string, left int) {
		normal(t, s)
		for i := 0; left > 0 && i < 7; i++ {
			try(s+"-+.e012"[i:i+1], left-1)
		}
	}
	try("", 6)
	rnd := rand.New(rand.NewSource(704))
	for range 100000 {
		normal(t, randomNumber(rnd))
	}
}

func randomNumber(rnd *rand.Rand) string {
	digits := func(n int) string {
		s := make([]byte, n)
		for i := range s {
			s[i] = "0000123456789"[rnd.Intn(13)]
		}
		return string(s)
	}
	s := []string{"", "", "-"}[rnd.Intn(3)]
	if rnd.Intn(3) == 0 {
		s += "0"
	} else {
		s += strconv.Itoa(1+rnd.Intn(9)) + digits(rnd.Intn(25)) + zeros(rnd.Intn(2)*rnd.Intn(25))
	}
	if rnd.Intn(2) == 0 {
		s += "." + zeros(rnd.Intn(2)*rnd.Intn(25)) + digits(1+rnd.Intn(25))
	}
	if rnd.Intn(2) == 0 {
		s += []string{"e", "E", "e+", "e-", "E-"}[rnd.Intn(5)]
		s += []string{digits(1 + rnd.Intn(6)), strconv.Itoa(rnd.Intn(45)), strconv.Itoa(999950 + rnd.Intn(50))}[rnd.Intn(3)]
	}
	return s
}

// P7.5: two numbers are worth the same just if their forms are the same; a form is its own form.
func TestNormalSameWorth(t *testing.T) {
	rnd := rand.New(rand.NewSource(705))
	var forms []string
	var worths []*big.Rat
	for len(forms) < 400 {
		s := strconv.Itoa(rnd.Intn(3)-1) + zeros(rnd.Intn(3)) + "." + zeros(rnd.Intn(3)) + strconv.Itoa(rnd.Intn(3)) + zeros(rnd.Intn(2)) + "e" + strconv.Itoa(rnd.Intn(7)-3)
		form, e := scroll.Normal(s)
		if e != api.OK { // a zero ahead of others
			continue
		}
		if again, e := scroll.Normal(form); again != form || e != api.OK {
			t.Errorf("Normal(%s): %s, %d", form, again, e)
		}
		r, _ := new(big.Rat).SetString(s)
		forms, worths = append(forms, form), append(worths, r)
	}
	for i := range forms {
		for j := range forms {
			if (forms[i] == forms[j]) != (worths[i].Cmp(worths[j]) == 0) {
				t.Errorf("%s and %s", forms[i], forms[j])
			}
		}
	}
}

// whole holds Uint and Int of a value against the second reckoning.
func whole(t *testing.T, v api.Json) {
	t.Helper()
	want, why := modelWhole(v, new(big.Int), new(big.Int).SetUint64(math.MaxUint64))
	if got, e := scroll.Uint(v); got != want.Uint64() || e != why {
		t.Errorf("Uint of %d %q: %d, %d, not %s, %d", v.Kind, v.Text, got, e, want, why)
	}
	want, why = modelWhole(v, big.NewInt(math.MinInt64), big.NewInt(math.MaxInt64))
	if got, e := scroll.Int(v); got != want.Int64() || e != why {
		t.Errorf("Int of %d %q: %d, %d, not %s, %d", v.Kind, v.Text, got, e, want, why)
	}
}

// P7.7: the last good numbers and one beyond, on both sides; whole numbers with a point or a power.
func TestWholeNumbers(t *testing.T) {
	for in, want := range map[string]uint64{
		"0": 0, "-0": 0, "0.0e5": 0, "-0e-9": 0, "1": 1, "1e3": 1000, "12.0": 12, "1.2e1": 12, "120e-1": 12, "18446744073709551615": math.MaxUint64, "18446744073709551615.000": math.MaxUint64, "184467440737095516150e-1": math.MaxUint64, "1.8446744073709551615E+19": math.MaxUint64, "1e19": 10000000000000000000, "18446744073709551610": math.MaxUint64 - 5, "9223372036854775808": 1 << 63,
	} {
		whole(t, number(in))
		if got, e := scroll.Uint(number(in)); got != want || e != api.OK {
			t.Errorf("Uint(%s): %d, %d", in, got, e)
		}
	}
	for in, want := range map[string]int64{
		"0": 0, "-0": 0, "-1": -1, "-1e3": -1000, "-12.0": -12, "-0.12e2": -12, "9223372036854775807": math.MaxInt64, "-9223372036854775808": math.MinInt64, "-9.223372036854775808e18": math.MinInt64, "9223372036854775807.0": math.MaxInt64, "-92233720368547758080e-1": math.MinInt64, "9e18": 9000000000000000000,
	} {
		whole(t, number(in))
		if got, e := scroll.Int(number(in)); got != want || e != api.OK {
			t.Errorf("Int(%s): %d, %d", in, got, e)
		}
	}
	for _, in := range []string{"-1", "-1e-1", "1.5", "0.1", "1e-1", "18446744073709551616", "18446744073709551615.1", "1e20", "2e19", "1e999999", "1e-999999", "-9223372036854775808", strings.Repeat("9", 64), "x", "", "01", "+1", "1_0", "0x10", " 1", "10e999999", strings.Repeat("1", 65), zeros(65)} {
		whole(t, number(in))
		if got, e := scroll.Uint(number(in)); got != 0 || e != api.ErrScrollNumber {
			t.Errorf("Uint(%q): %d, %d", in, got, e)
		}
	}
	for _, in := range []string{"9223372036854775808", "-9223372036854775809", "9223372036854775807.5", "-9223372036854775808.5", "1.5", "-1.5", "1e19", "-1e19", "1e20", "-1e999999", "1e-21", "x", "", "-", "+1", "-01", "--1", "-" + strings.Repeat("9", 64)} {
		whole(t, number(in))
		if got, e := scroll.Int(number(in)); got != 0 || e != api.ErrScrollNumber {
			t.Errorf("Int(%q): %d, %d", in, got, e)
		}
	}
}

// P7.7: another kind is told ahead of a text that is no number; other fields are not looked at.
func TestWholeNumbersKind(t *testing.T) {
	for _, kind := range []int{-1, 0, api.JNull, api.JFalse, api.JTrue, api.JText, api.JList, api.JObject, 8} {
		for _, s := range []string{"1", "x", ""} {
			v := api.Json{Kind: kind, Text: s}
			whole(t, v)
			if _, e := scroll.Uint(v); e != api.ErrScrollKind {
				t.Errorf("Uint of kind %d: %d", kind, e)
			}
			if _, e := scroll.Int(v); e != api.ErrScrollKind {
				t.Errorf("Int of kind %d: %d", kind, e)
			}
		}
	}
	odd := api.Json{Kind: api.JNumber, Text: "7", Keys: []string{broken, broken, ""}, Items: []api.Json{{Kind: 99}}}
	if u, e := scroll.Uint(odd); u != 7 || e != api.OK {
		t.Errorf("Uint: %d, %d", u, e)
	}
	if i, e := scroll.Int(odd); i != 7 || e != api.OK {
		t.Errorf("Int: %d, %d", i, e)
	}
}

// P7.7: random numbers, most of them about the bounds.
func TestWholeNumbersAgainstModel(t *testing.T) {
	rnd := rand.New(rand.NewSource(706))
	for range 30000 {
		whole(t, number(randomNumber(rnd)))
		b := new(big.Int).Lsh(big.NewInt(1), uint(60+rnd.Intn(6)))
		b.Add(b, big.NewInt(int64(rnd.Intn(5)-2)))
		if rnd.Intn(2) == 0 {
			b.Neg(b)
		}
		s := b.String()
		whole(t, number(s))
		whole(t, number(s+".0"))
		whole(t, number(s+"0e-1"))
		whole(t, number(s+"e-1"))
		whole(t, number(s+"e1"))
	}
}

// P7.7: OfUint and OfInt write digits, and are read back.
func TestOfNumbers(t *testing.T) {
	for u, want := range map[uint64]string{0: "0", 1: "1", 10: "10", 1 << 63: "9223372036854775808", math.MaxUint64: "18446744073709551615", 1000000: "1000000"} {
		if v := scroll.OfUint(u); !equals(v, number(want)) {
			t.Errorf("OfUint(%d): %q", u, v.Text)
		}
		if got, e := scroll.Uint(scroll.OfUint(u)); got != u || e != api.OK {
			t.Errorf("Uint(OfUint(%d)): %d, %d", u, got, e)
		}
	}
	for i, want := range map[int64]string{0: "0", 1: "1", -1: "-1", -10: "-10", math.MaxInt64: "9223372036854775807", math.MinInt64: "-9223372036854775808"} {
		if v := scroll.OfInt(i); !equals(v, number(want)) {
			t.Errorf("OfInt(%d): %q", i, v.Text)
		}
		if got, e := scroll.Int(scroll.OfInt(i)); got != i || e != api.OK {
			t.Errorf("Int(OfInt(%d)): %d, %d", i, got, e)
		}
	}
	rnd := rand.New(rand.NewSource(707))
	for range 10000 {
		u := rnd.Uint64() >> rnd.Intn(64)
		if v := scroll.OfUint(u); !equals(v, number(new(big.Int).SetUint64(u).String())) || scroll.Check(v) != api.OK {
			t.Errorf("OfUint(%d): %q", u, v.Text)
		}
		if v := scroll.OfInt(int64(u)); !equals(v, number(big.NewInt(int64(u)).String())) || scroll.Check(v) != api.OK {
			t.Errorf("OfInt(%d): %q", int64(u), v.Text)
		}
	}
}
