package light

import "linkboy/api"

// Bounds of the square of the degrees of a radian, with which tangents of small angles become degrees.
const (
	leastDegrees = 3282
	mostDegrees  = 3283
)

// Veil returns the luminance of the veil that lamps make in an eye.
func Veil(s api.LtScene, v api.LtView) (api.Encl, api.Errno) {
	_, _, e := Check(s)
	switch {
	case e != api.OK:
		return api.Encl{}, e
	case !isPlace(v.X, v.Y):
		return api.Encl{}, api.ErrRange
	case !isDirection([2]int{v.DX, v.DY}):
		return api.Encl{}, api.ErrArg
	}
	return veil(s, v), api.OK
}

// veil returns the luminance of the veil at a view.
func veil(s api.LtScene, v api.LtView) api.Encl {
	return sum(s, func(l lantern) api.Encl {
		tangent, counts := l.off(v)
		if !counts {
			return api.Encl{}
		}
		light := l.onEye(v)
		least, most := tangent.Lo*tangent.Lo, tangent.Hi*tangent.Hi
		lo := divisor(most).down(1000000 * light.Lo)
		// An angle is less than its tangent, but not less than this divided by 1 and its square.
		bent := divisor(1000000).up((1000000 + most) * (1000000 + most))
		hi := divisor(least).up(light.Hi * bent)
		return api.Encl{Lo: divisor(mostDegrees).down(10000 * lo), Hi: divisor(leastDegrees).up(10000 * hi)}
	})
}

// off returns the tangent, in per mille, of the angle between a lamp and the direction in which one looks, and whether
// the lamp counts.
func (l lantern) off(v api.LtView) (tangent api.Encl, counts bool) {
	z, look := l.aboveEye(), [2]int{v.DX, v.DY}
	offset := [2]int{l.pole().X - v.X, l.pole().Y - v.Y}
	along, across := scalar(offset, look), cross(offset, look)
	beside := across*across + z*z*scalar(look, look)
	if z <= 0 || along <= 0 || beside > along*along {
		return api.Encl{}, false
	}
	r, ahead := roots(beside), divisor(along)
	return api.Encl{Lo: max(ahead.down(1000*r.Lo), api.LtNear), Hi: max(ahead.up(1000*r.Hi), api.LtNear)}, true
}

// onEye returns the light that a lamp that counts makes on an eye, in millilux.
func (l lantern) onEye(v api.LtView) api.Encl {
	point, z := pointAt(v.X, v.Y), l.aboveEye()
	i := l.towards(frame(l.pole(), point), z)
	square := divisor(distances(point, placeOf(l.pole())).Lo + z*z)
	// A lamp that counts is at most 45 degrees off, of which the cosine is above 707 per mille.
	return api.Encl{Lo: divisor(1000).down(707 * square.down(1000000*i.Lo)), Hi: square.up(1000000 * i.Hi)}
}

// aboveEye returns how much higher than an eye the lamp is, in mm.
func (l lantern) aboveEye() int { return l.height() - api.LtEye }
