package lamp

import (
	"iter"
	"sort"

	"linkboy/api"
)

const (
	unit       = 1000        // 1, as a tangent: these are in per mille
	unitSquare = unit * unit // the square of it
	millionths = 1000        // in a per mille
)

// Intensity returns the intensity of a table in the direction of a point.
func Intensity(c api.LmCatalog, table, dx, dy, h int) (api.Encl, api.Errno) {
	return Over(c, table, api.LmRect{X0: dx, X1: dx, Y0: dy, Y1: dy}, h)
}

// Over returns the intensities of a table in the directions of all points of a rectangle.
func Over(c api.LmCatalog, table int, r api.LmRect, h int) (api.Encl, api.Errno) {
	t, e := pick(c, c.Tables, table)
	if e != api.OK {
		return api.Encl{}, e
	}
	if e := checkRect(r, h); e != api.OK {
		return api.Encl{}, e
	}
	return over(t, r, h), api.OK
}

// Share returns which share of the light goes where a table says.
func Share(c api.LmCatalog, table, split int) (api.Encl, api.Errno) {
	t, e := pick(c, c.Tables, table)
	if e != api.OK {
		return api.Encl{}, e
	}
	if !within(split, 1, api.MaxSplit) {
		return api.Encl{}, api.ErrRange
	}
	var sum api.Encl
	for i := range len(t.Us) - 1 {
		for k := range len(t.Vs) - 1 {
			s := fieldShare(t, i, k, split)
			sum.Lo += s.Lo
			sum.Hi += s.Hi
		}
	}
	return api.Encl{Lo: down(sum.Lo, millionths), Hi: up(sum.Hi, millionths)}, api.OK
}

// checkRect returns the first error of a rectangle at a depth.
func checkRect(r api.LmRect, h int) api.Errno {
	if !within(h, 1, api.MaxLmHeight) || !allWithin([]int{r.X0, r.X1, r.Y0, r.Y1}, -api.MaxOffset, api.MaxOffset) {
		return api.ErrRange
	}
	if r.X0 > r.X1 || r.Y0 > r.Y1 {
		return api.ErrArg
	}
	return api.OK
}

// over returns the intensity over a rectangle. Tangents are multiplied by the depth, so that those of points are integers.
func over(t *api.LmTable, r api.LmRect, h int) api.Encl {
	u0, u1, v0, v1 := unit*r.X0, unit*r.X1, unit*r.Y0, unit*r.Y1
	whole := api.Encl{Lo: 0, Hi: t.Side}
	if isIn(t.Us, u0, h) && isIn(t.Us, u1, h) && isIn(t.Vs, v0, h) && isIn(t.Vs, v1, h) {
		whole = interpolated(t, u0, v0, h)
	}
	for u := range crossed(t.Us, u0, u1, h) {
		for v := range crossed(t.Vs, v0, v1, h) {
			whole = hull(whole, interpolated(t, u, v, h))
		}
	}
	return whole
}

// crossed yields, times h, two tangents and those of a list between them, as far as they are in the list's range.
func crossed(list []int, from, to, h int) iter.Seq[int] {
	return func(yield func(int) bool) {
		if isIn(list, from, h) && !yield(from) {
			return
		}
		for _, n := range list {
			if from < n*h && n*h < to && !yield(n*h) {
				return
			}
		}
		if from < to && isIn(list, to, h) {
			yield(to)
		}
	}
}

// isIn reports whether a tangent, times h, is in the range of a list.
func isIn(list []int, n, h int) bool { return within(n, list[0]*h, list[len(list)-1]*h) }

// interpolated returns the intensity in a direction of the table, which is given times h.
func interpolated(t *api.LmTable, u, v, h int) api.Encl {
	i, k := fieldOf(t.Us, u, h), fieldOf(t.Vs, v, h)
	along := func(row []int) api.Encl {
		return between(t.Vs[k]*h, t.Vs[k+1]*h, v, point(row[k]), point(row[k+1]))
	}
	return between(t.Us[i]*h, t.Us[i+1]*h, u, along(t.Values[i]), along(t.Values[i+1]))
}

// fieldOf returns where in a list the field begins in which a tangent, times h, is.
func fieldOf(list []int, n, h int) int {
	i := 0
	for i+2 < len(list) && list[i+1]*h <= n {
		i++
	}
	return i
}

// between returns what is at n, if x is at from and y is at to.
func between(from, to, n int, x, y api.Encl) api.Encl {
	return api.Encl{
		Lo: down((to-n)*x.Lo+(n-from)*y.Lo, to-from),
		Hi: up((to-n)*x.Hi+(n-from)*y.Hi, to-from),
	}
}

// point returns the enclosure of one number.
func point(n int) api.Encl { return api.Encl{Lo: n, Hi: n} }

// fieldShare returns the light of a field, in millionths.
func fieldShare(t *api.LmTable, i, k, split int) api.Encl {
	bright := hull(point(t.Values[i][k]), point(t.Values[i][k+1]), point(t.Values[i+1][k]), point(t.Values[i+1][k+1]))
	us, vs := cuts(t.Us[i], t.Us[i+1], split), cuts(t.Vs[k], t.Vs[k+1], split)
	var sum api.Encl
	for a := range split {
		for b := range split {
			s := partShare(bright, us[a], us[a+1], vs[b], vs[b+1])
			sum.Lo += s.Lo
			sum.Hi += s.Hi
		}
	}
	return sum
}

// cuts returns the tangents that divide a field.
func cuts(from, to, split int) []int {
	var list []int
	for j := range split + 1 {
		list = append(list, from+down((to-from)*j, split))
	}
	return list
}

// partShare returns the light of a part of a field, in millionths.
func partShare(bright api.Encl, u0, u1, v0, v1 int) api.Encl {
	size := (u1 - u0) * (v1 - v0) * unit
	uu, vv := squares(u0, u1), squares(v0, v1)
	near, far := rootDown(unitSquare+uu.Lo+vv.Lo), rootUp(unitSquare+uu.Hi+vv.Hi)
	return api.Encl{Lo: down(bright.Lo*size, far*far*far), Hi: up(bright.Hi*size, near*near*near)}
}

// squares returns the enclosure of the squares of all numbers of a range.
func squares(from, to int) api.Encl {
	x := hull(point(from*from), point(to*to))
	if within(0, from, to) {
		x.Lo = 0
	}
	return x
}

// rootDown returns the square root of n, rounded down.
func rootDown(n int) int { return sort.Search(n, func(r int) bool { return (r+1)*(r+1) > n }) }

// rootUp returns the square root of n, rounded up.
func rootUp(n int) int { return sort.Search(n, func(r int) bool { return r*r >= n }) }
