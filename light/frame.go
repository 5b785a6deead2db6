package light

import (
	"math/bits"
	"slices"

	"linkboy/api"
)

// corners are the offsets from one place to the corners of a patch, or the other way.
type corners [4][2]int

// Frame returns a patch as the lamp of a column sees it.
func Frame(s api.LtScene, column int, p api.RdPatch) (api.LmRect, api.Errno) {
	_, _, e := Check(s)
	switch {
	case e != api.OK:
		return api.LmRect{}, e
	case column < 0 || column >= len(s.Road.Columns):
		return api.LmRect{}, api.ErrNone
	case !isPatch(p):
		return api.LmRect{}, api.ErrRange
	}
	return frame(&s.Road.Columns[column], p), api.OK
}

// frame returns a patch as the lamp of a column sees it.
func frame(c *api.RdColumn, p api.RdPatch) api.LmRect {
	return seen(offsetsFrom(placeOf(c), p), [2]int{c.DX, c.DY})
}

// seen returns the least rectangle, as it is seen in a direction, that is certain to contain some offsets.
func seen(list corners, direction [2]int) api.LmRect {
	var across, along [4]int
	for i, offset := range list {
		across[i], along[i] = cross(offset, direction), scalar(offset, direction)
	}
	length := roots(1000000 * scalar(direction, direction)) // in thousandths
	x0, x1 := shortened(across, length)
	y0, y1 := shortened(along, length)
	return api.LmRect{X0: x0, X1: x1, Y0: y0, Y1: y1}
}

// shortened returns the least and the greatest of some numbers, divided by a length in thousandths, outwards. Which
// end of the length makes a number less depends on its sign.
func shortened(numbers [4]int, length api.Encl) (least, most int) {
	short, long := divisor(length.Lo), divisor(length.Hi)
	least, most = slices.Min(numbers[:]), slices.Max(numbers[:])
	lower, upper := long.down, short.up
	if least < 0 {
		lower = short.down
	}
	if most < 0 {
		upper = long.up
	}
	return reachable(lower(1000 * least)), reachable(upper(1000 * most))
}

// reachable returns the offset for which tables are asked instead of n.
func reachable(n int) int { return min(max(n, -api.MaxOffset), api.MaxOffset) }

// offsetsFrom returns the offsets from a place to the corners of a patch.
func offsetsFrom(at [2]int, p api.RdPatch) corners {
	x0, x1, y0, y1 := p.X0-at[0], p.X1-at[0], p.Y0-at[1], p.Y1-at[1]
	return corners{{x0, y0}, {x1, y0}, {x1, y1}, {x0, y1}}
}

// offsetsTo returns the offsets from the corners of a patch to a place.
func offsetsTo(at [2]int, p api.RdPatch) corners {
	list := offsetsFrom(at, p)
	for i, offset := range list {
		list[i] = [2]int{-offset[0], -offset[1]}
	}
	return list
}

// distances returns the least and the greatest square of the distance of a place to a point of a patch.
func distances(p api.RdPatch, at [2]int) api.Encl {
	x, y := squares(p.X0-at[0], p.X1-at[0]), squares(p.Y0-at[1], p.Y1-at[1])
	return api.Encl{Lo: x.Lo + y.Lo, Hi: x.Hi + y.Hi}
}

// squares returns the least and the greatest square of a number of a range.
func squares(from, to int) api.Encl {
	a, b := from*from, to*to
	if within(0, from, to) {
		return api.Encl{Lo: 0, Hi: max(a, b)}
	}
	return api.Encl{Lo: min(a, b), Hi: max(a, b)}
}

func placeOf(c *api.RdColumn) [2]int { return [2]int{c.X, c.Y} }

// pointAt returns the patch of one point.
func pointAt(x, y int) api.RdPatch { return api.RdPatch{X0: x, Y0: y, X1: x, Y1: y} }

func scalar(a, b [2]int) int { return a[0]*b[0] + a[1]*b[1] }

// cross returns the cross product, which is above 0 if a is on the right of b.
func cross(a, b [2]int) int { return a[0]*b[1] - a[1]*b[0] }

// divisor is a number above 0 by which others are divided.
type divisor int

// down returns n, divided, rounded down.
func (d divisor) down(n int) int {
	q := n / int(d)
	if n%int(d) < 0 {
		q--
	}
	return q
}

// up returns n, divided, rounded up.
func (d divisor) up(n int) int { return -d.down(-n) }

// roots returns the square root of a number from 0 to 2^60, rounded down and up.
func roots(n int) api.Encl {
	r := 1 << ((bits.Len(uint(n)) + 1) / 2)
	for r*r > n { // r is never below the root, rounded down
		r = (r + n/r) / 2
	}
	if r*r < n {
		return api.Encl{Lo: r, Hi: r + 1}
	}
	return api.Encl{Lo: r, Hi: r}
}
