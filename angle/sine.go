package angle

import (
	"math/bits"

	"linkboy/api"
)

// Sines are computed with fractions, integers n from 0 on that stand for n / 2^63.
// Each step adds at most about one to the error, which is below 8 in the end, or
// below 2^30 when the sine was multiplied by api.One. The test of the margin shows
// that no sine of an angle is so near to an integer, but those that are integers.
const (
	fractionBits        = 63
	whole        uint64 = 1 << fractionBits

	// A millionth of a degree, in radians, with radianBits bits behind the point.
	radian     uint64 = 10803064813898918630
	radianBits        = 89

	// The terms behind these are less than 2^-67 for angles of at most 45 degrees.
	lastOfSine   = 21
	lastOfCosine = 20
)

// sine returns the least enclosure of the sine of any angle.
func sine(a int) api.Encl {
	a = (a%turn + turn) % turn
	if a >= 2*right {
		return negative(sine(a - 2*right))
	}
	if a > right {
		a = 2*right - a
	}
	// By the theorem of Niven no other sine of a rational number of degrees is rational.
	switch a {
	case 0:
		return api.Encl{}
	case right / 3:
		return api.Encl{Lo: api.One / 2, Hi: api.One / 2}
	case right:
		return api.Encl{Lo: api.One, Hi: api.One}
	}
	n, _ := hundredMillionths(fraction(a))
	return api.Encl{Lo: n, Hi: n + 1}
}

// fraction returns the sine of an angle between 0 and 90 degrees, nearly.
func fraction(a int) uint64 {
	if a > right/2 {
		r := radians(right - a)
		return series(product(r, r), lastOfCosine)
	}
	r := radians(a)
	return product(r, series(product(r, r), lastOfSine))
}

// hundredMillionths returns a fraction as a multiple of 1 / api.One, rounded down, and the fraction that is left.
func hundredMillionths(f uint64) (n int, rest uint64) {
	hi, lo := bits.Mul64(f, api.One)
	return int(hi<<(64-fractionBits) | lo>>fractionBits), lo &^ whole
}

// radians returns an angle from 0 to 45 degrees in radians.
func radians(a int) uint64 {
	const extra = radianBits - fractionBits
	hi, lo := bits.Mul64(uint64(a), radian)
	return hi<<(64-extra) | lo>>extra
}

// series returns the beginning of the series of the cosine of r, or of the sine of r by r, for the square of r:
// its last term has the factorial of last, which is even for the cosine, and odd for the sine.
func series(square, last uint64) uint64 {
	sum := whole
	for n := last; n > 1; n -= 2 {
		sum = whole - product(square, sum)/(n*(n-1))
	}
	return sum
}

// product returns the product of two fractions, rounded down.
func product(x, y uint64) uint64 {
	hi, lo := bits.Mul64(x, y)
	return hi<<(64-fractionBits) | lo>>fractionBits
}
