package escrow

import "coffer/rijndael"

// polynomial tells its value at a place.
type polynomial func(x byte) byte

// withCoefficients gives the polynomial of these coefficients, that of the highest power first. It keeps the list.
func withCoefficients(list []byte) polynomial {
	return func(x byte) byte {
		var y byte
		for _, c := range list {
			y = rijndael.Times(y, x) ^ c
		}
		return y
	}
}

// valuesAt gives the values of a list of polynomials at one place.
func valuesAt(x byte, list []polynomial) []byte {
	out := make([]byte, len(list))
	for i, p := range list {
		out[i] = p(x)
	}
	return out
}

// through gives the coefficients of the polynomial that has these values at the places whose peaks are given; there is one of a lower power than there are places.
func through(peaks [][]byte, values []byte) []byte {
	out := make([]byte, len(values))
	for k, peak := range peaks {
		for i, c := range peak {
			out[i] ^= rijndael.Times(c, values[k])
		}
	}
	return out
}

// peaksAt gives, of each place of a list without equal ones, the coefficients of the polynomial that is 1 there and 0 at the others.
func peaksAt(places []byte) [][]byte {
	out := make([][]byte, len(places))
	for i, place := range places {
		product, there := []byte{1}, byte(1)
		for k, other := range places {
			if k != i {
				product = withRoot(product, other)
				there = rijndael.Times(there, place^other)
			}
		}
		out[i] = scaled(product, inverse(there))
	}
	return out
}

// withRoot gives the coefficients of a polynomial's product with one that is 0 at the root.
func withRoot(list []byte, root byte) []byte {
	out := make([]byte, len(list)+1)
	for i, c := range list {
		out[i] ^= c
		out[i+1] = rijndael.Times(c, root)
	}
	return out
}

// scaled gives a list's products with one byte.
func scaled(list []byte, factor byte) []byte {
	out := make([]byte, len(list))
	for i, c := range list {
		out[i] = rijndael.Times(c, factor)
	}
	return out
}

// inverse gives the byte whose product with x is 1: it is x^254, since x^255 is 1. Of 0 it is 0.
func inverse(x byte) byte {
	power := byte(1)
	for range 7 {
		x = rijndael.Times(x, x)
		power = rijndael.Times(power, x)
	}
	return power
}

// powers gives the first n powers of 3, the power 0 first.
func powers(n int) []byte {
	out := make([]byte, n)
	power := byte(1)
	for i := range out {
		out[i] = power
		power = rijndael.Times(power, 3)
	}
	return out
}
