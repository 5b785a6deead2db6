// Package angle is layer 1: least enclosures of sines, angles, roots and sums; see shared/doc/01-angle.md.
package angle

import (
	"sort"

	"linkboy/api"
)

const (
	right = 90 * api.Degree
	turn  = 4 * right
)

// Sin returns the least enclosure of the sine of an angle.
func Sin(a int) (api.Encl, api.Errno) { return SinOf(api.Encl{Lo: a, Hi: a}) }

// Cos returns the least enclosure of the cosine of an angle.
func Cos(a int) (api.Encl, api.Errno) { return CosOf(api.Encl{Lo: a, Hi: a}) }

// SinOf returns the least enclosure of the sines of angles.
func SinOf(a api.Encl) (api.Encl, api.Errno) {
	if !within(a, -api.MaxAngle, api.MaxAngle) {
		return api.Encl{}, api.ErrRange
	}
	return sines(a), api.OK
}

// CosOf returns the least enclosure of the cosines of angles.
func CosOf(a api.Encl) (api.Encl, api.Errno) {
	if !within(a, -api.MaxAngle, api.MaxAngle) {
		return api.Encl{}, api.ErrRange
	}
	return sines(api.Encl{Lo: a.Lo + right, Hi: a.Hi + right}), api.OK
}

// Arccos returns the least enclosure of the angles with a cosine.
func Arccos(x api.Encl) (api.Encl, api.Errno) {
	a, e := Arcsin(x)
	if e != api.OK {
		return api.Encl{}, e
	}
	// A right angle is an integer, so the angle that is left of it is rounded as this one, the other way round.
	return api.Encl{Lo: right - a.Hi, Hi: right - a.Lo}, api.OK
}

// Arcsin returns the least enclosure of the angles with a sine.
func Arcsin(x api.Encl) (api.Encl, api.Errno) {
	if !within(x, -api.One, api.One) {
		return api.Encl{}, api.ErrRange
	}
	return api.Encl{Lo: -arcUp(-x.Lo), Hi: arcUp(x.Hi)}, api.OK
}

// sines returns the least enclosure of the sines of some angles.
func sines(a api.Encl) api.Encl {
	s := sine(a.Lo)
	if a.Lo < a.Hi {
		s = hull(s, sine(a.Hi))
	}
	// Between two ends the sine is beyond both of them only where it turns.
	if passes(a, right) {
		s.Hi = api.One
	}
	if passes(a, -right) {
		s.Lo = -api.One
	}
	return s
}

// passes reports whether an angle that differs from b by whole turns is in a.
func passes(a api.Encl, b int) bool {
	return b+turn*up(a.Lo-b, turn) <= a.Hi
}

// arcUp returns the arc sine of v, rounded up.
func arcUp(v int) int {
	// v is an integer, so a sine is not below it exactly if its rounding down is not.
	enough := func(i int) bool { return sine(i-right).Lo >= v }
	return sort.Search(2*right, enough) - right
}
