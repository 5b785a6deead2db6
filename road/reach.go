package road

import (
	"iter"
	"math/bits"

	"linkboy/api"
)

// zone reports whether a set of points of the ground has a point of a patch. The set is convex: if it has the corners
// of a patch, it has all of it.
type zone func(p api.RdPatch) bool

// hasAll reports whether the set has all points of a patch.
func (z zone) hasAll(p api.RdPatch) bool {
	for _, corner := range cornersOf(p) {
		if !z(spot(corner)) {
			return false
		}
	}
	return true
}

// extent tells how much of a patch is in zones: in none of them, all of it in one of them, or some of it.
func extent(zones iter.Seq[zone], p api.RdPatch, none, some, all int) int {
	found := none
	for z := range zones {
		if z.hasAll(p) {
			return all
		}
		if z(p) {
			found = some
		}
	}
	return found
}

// spot returns the patch of one point.
func spot(p [2]int) api.RdPatch { return api.RdPatch{X0: p[0], Y0: p[1], X1: p[0], Y1: p[1]} }

// cornersOf returns the corners of a rectangle, going round it.
func cornersOf(p api.RdPatch) [4][2]int {
	return [4][2]int{{p.X0, p.Y0}, {p.X1, p.Y0}, {p.X1, p.Y1}, {p.X0, p.Y1}}
}

// scaled returns a rectangle that is made k times as large, from the origin, and then moved.
func scaled(p api.RdPatch, k, dx, dy int) api.RdPatch {
	return api.RdPatch{X0: k*p.X0 + dx, Y0: k*p.Y0 + dy, X1: k*p.X1 + dx, Y1: k*p.Y1 + dy}
}

// hullReaches reports whether the hull of two rectangles has a point no farther than r from the origin.
// Numbers are at most 10^8 in size.
func hullReaches(a, b api.RdPatch, r int) bool {
	if hullHasOrigin(a, b) {
		return true
	}
	// All sides of the hull are sides of one of the rectangles, or join a corner of one to the same corner of the other.
	from, to := cornersOf(a), cornersOf(b)
	for i := range from {
		next := (i + 1) % len(from)
		if lineReaches(from[i], from[next], r) || lineReaches(to[i], to[next], r) || lineReaches(from[i], to[i], r) {
			return true
		}
	}
	return false
}

// hullHasOrigin reports whether the origin is in the hull of two rectangles: in one of those between them, into
// which the first one changes evenly until it is the second one.
func hullHasOrigin(a, b api.RdPatch) bool {
	from, to := excess(a), excess(b)
	for i := range from {
		if from[i] <= 0 {
			continue
		}
		if to[i] > 0 {
			return false
		}
		// This side lets the origin in at the share from[i] / (from[i] - to[i]) of the way. No other side may have shut
		// it out before: it does after -from[k] / (to[k] - from[k]) of it.
		for k := range from {
			if from[k] <= 0 && from[i]*to[k] > from[k]*to[i] {
				return false
			}
		}
	}
	return true
}

// excess tells for each side of a rectangle how far the origin is outside; inside it is at most 0.
func excess(p api.RdPatch) [4]int { return [4]int{p.X0, -p.X1, p.Y0, -p.Y1} }

// lineReaches reports whether a straight line from a to b has a point no farther than r from the origin.
func lineReaches(a, b [2]int, r int) bool {
	way := [2]int{b[0] - a[0], b[1] - a[1]}
	if scalar(a, way) >= 0 {
		return scalar(a, a) <= r*r
	}
	if scalar(b, way) <= 0 {
		return scalar(b, b) <= r*r
	}
	// The distance is the cross product, divided by the length of the way.
	c := abs(cross(a, way))
	return multiply(c, c).isAtMost(multiply(r*r, scalar(way, way)))
}

func scalar(a, b [2]int) int { return a[0]*b[0] + a[1]*b[1] }

// cross returns the cross product, which is above 0 if b is on the left of a.
func cross(a, b [2]int) int { return a[0]*b[1] - a[1]*b[0] }

func abs(n int) int { return max(n, -n) }

// product is the product of two numbers from 0 on, which may have more than 64 bits.
type product struct{ high, low uint64 }

func multiply(a, b int) product {
	high, low := bits.Mul64(uint64(a), uint64(b))
	return product{high, low}
}

// isAtMost reports whether p is not above q.
func (p product) isAtMost(q product) bool {
	return p == q || p.high < q.high || p.high == q.high && p.low < q.low
}
