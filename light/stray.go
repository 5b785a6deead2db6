package light

import (
	"linkboy/api"
	"linkboy/lamp"
	"linkboy/road"
)

// Window returns how much light a window gets at most.
func Window(s api.LtScene, front, window int) (int, api.Errno) {
	if _, _, e := Check(s); e != api.OK {
		return 0, e
	}
	box, e := road.Window(s.Road, front, window)
	if e != api.OK {
		return 0, e
	}
	total := sum(s, func(l lantern) api.Encl {
		if faces, _ := road.Faces(s.Road, l.column, front); !faces {
			return api.Encl{}
		}
		return atMost(l.onWindow(box))
	})
	return total.Hi, api.OK
}

// atMost returns the enclosure of what is from 0 to n.
func atMost(n int) api.Encl { return api.Encl{Lo: 0, Hi: n} }

// onWindow returns how much light the lamp makes on a window at most, in millilux.
func (l lantern) onWindow(box api.RdBox) int {
	wall := api.RdPatch{X0: box.X0, Y0: box.Y0, X1: box.X1, Y1: box.Y1}
	high, deep := l.height()-decimetre*box.High, l.height()-decimetre*box.Low
	square := max(distances(wall, placeOf(l.pole())).Lo+squares(high, deep).Lo, 1)
	return divisor(square).up(1000000 * l.intensityAtMost(wall, high, deep))
}

// intensityAtMost returns the greatest intensity of the lamp towards a window, which is at depths from high to deep
// below the lamp.
func (l lantern) intensityAtMost(wall api.RdPatch, high, deep int) int {
	switch {
	case deep <= 0:
		return l.shine(l.table().Sky)
	case high <= 0:
		return l.shine(greatest(l.table()))
	}
	// A point that is deeper is in the same direction as one that is nearer, at the least depth.
	r := frame(l.pole(), wall)
	r.X0, r.X1 = drawnIn(r.X0, r.X1, high, deep)
	r.Y0, r.Y1 = drawnIn(r.Y0, r.Y1, high, deep)
	return l.towards(r, high).Hi
}

// shine returns the greatest intensity of the lamp where that of its table is n at most.
func (l lantern) shine(n int) int { return divisor(1000).up(n * l.flux().Hi) }

// drawnIn returns a range that contains the one from least to most, and those that are less, down to high / deep times
// as large.
func drawnIn(least, most, high, deep int) (int, int) {
	d := divisor(deep)
	if least > 0 {
		least = d.down(least * high)
	}
	if most < 0 {
		most = d.up(most * high)
	}
	return least, most
}

// Sky returns how much light goes to the sky at most.
func Sky(s api.LtScene) (int, api.Errno) {
	if _, _, e := Check(s); e != api.OK {
		return 0, e
	}
	return sum(s, func(l lantern) api.Encl { return atMost(l.shine(l.table().Sky)) }).Hi, api.OK
}

// Power returns the power of all lamps.
func Power(s api.LtScene) (api.Encl, api.Errno) {
	if _, _, e := Check(s); e != api.OK {
		return api.Encl{}, e
	}
	return sum(s, func(l lantern) api.Encl {
		p, _ := lamp.Power(l.catalog, 0, l.use.Level)
		return p
	}), api.OK
}
