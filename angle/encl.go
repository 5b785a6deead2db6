package angle

import (
	"math"

	"linkboy/api"
)

// Root returns the least enclosure of the square roots.
func Root(x api.Encl) (api.Encl, api.Errno) {
	if !within(x, 0, api.MaxValue) {
		return api.Encl{}, api.ErrRange
	}
	lo, _ := root(x.Lo)
	hi, exact := root(x.Hi)
	if !exact {
		hi++
	}
	return api.Encl{Lo: lo, Hi: hi}, api.OK
}

// Plus returns the enclosure of the sums.
func Plus(x, y api.Encl) (api.Encl, api.Errno) {
	if !values(x) || !values(y) {
		return api.Encl{}, api.ErrRange
	}
	return checked(api.Encl{Lo: x.Lo + y.Lo, Hi: x.Hi + y.Hi})
}

// Minus returns the enclosure of the differences.
func Minus(x, y api.Encl) (api.Encl, api.Errno) {
	// Turning y round makes no enclosure of values of one that is none.
	return Plus(x, negative(y))
}

// Times returns the least enclosure of the products.
func Times(x, y api.Encl) (api.Encl, api.Errno) {
	if !values(x) || !values(y) {
		return api.Encl{}, api.ErrRange
	}
	return checked(corners(x, y, func(a, b int) api.Encl { return quotient(a*b, api.One) }))
}

// Over returns the least enclosure of the quotients.
func Over(x, y api.Encl) (api.Encl, api.Errno) {
	if !values(x) || !values(y) {
		return api.Encl{}, api.ErrRange
	}
	if y.Lo <= 0 && y.Hi >= 0 {
		return api.Encl{}, api.ErrZero
	}
	return checked(corners(x, y, func(a, b int) api.Encl { return quotient(a*api.One, b) }))
}

// within reports whether x is an enclosure with ends from least to most.
func within(x api.Encl, least, most int) bool {
	return least <= x.Lo && x.Lo <= x.Hi && x.Hi <= most
}

// values reports whether x is a valid enclosure of values.
func values(x api.Encl) bool { return within(x, -api.MaxValue, api.MaxValue) }

// checked returns x, or api.ErrRange if an end of it is not a value.
func checked(x api.Encl) (api.Encl, api.Errno) {
	if !values(x) {
		return api.Encl{}, api.ErrRange
	}
	return x, api.OK
}

// negative returns the enclosure of the numbers below 0 for those of x above it, and the reverse.
func negative(x api.Encl) api.Encl { return api.Encl{Lo: -x.Hi, Hi: -x.Lo} }

// hull returns the least enclosure that contains the first one and all others.
func hull(first api.Encl, others ...api.Encl) api.Encl {
	for _, o := range others {
		first.Lo = min(first.Lo, o.Lo)
		first.Hi = max(first.Hi, o.Hi)
	}
	return first
}

// corners returns the hull of what do returns for the ends of x and y. It encloses all results of an
// operation that rises or falls all along x, and all along y.
func corners(x, y api.Encl, do func(a, b int) api.Encl) api.Encl {
	ends := make([]api.Encl, 0, 4)
	collect := func(a, b int) { ends = append(ends, do(a, b)) }
	collect(x.Lo, y.Lo)
	collect(x.Lo, y.Hi)
	collect(x.Hi, y.Lo)
	collect(x.Hi, y.Hi)
	return hull(ends[0], ends[1:]...)
}

// quotient returns the least enclosure of n / d; d is not 0.
func quotient(n, d int) api.Encl {
	if d < 0 {
		n, d = -n, -d
	}
	return api.Encl{Lo: down(n, d), Hi: up(n, d)}
}

// down returns n / d, rounded down; d is above 0.
func down(n, d int) int {
	q := n / d
	if n%d < 0 {
		q--
	}
	return q
}

// up returns n / d, rounded up; d is above 0.
func up(n, d int) int { return -down(-n, d) }

// root returns the square root of a value, rounded down, and whether it is the root itself; v is from 0 on.
func root(v int) (r int, exact bool) {
	n := v * api.One
	// A float holds n, a multiple of 2^8, exactly, but not its root, which may be rounded up to the next integer.
	r = int(math.Sqrt(float64(n)))
	if r*r > n {
		r--
	}
	return r, r*r == n
}
