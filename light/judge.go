package light

import (
	"linkboy/api"
	"linkboy/road"
)

const maxAsked = 1000000000 // of the average and the least value of a class

// Judge returns the light of a road.
func Judge(s api.LtScene, road int, c api.LtClass) (api.LtResult, api.Errno) {
	if e := checkClass(s, road, c); e != api.OK {
		return api.LtResult{}, e
	}
	list, e := patchesOf(s, road, c.Step)
	if e != api.OK {
		return api.LtResult{}, e
	}
	return judge(s, list, c), api.OK
}

// Accept reports whether a road certainly has the light of a class.
func Accept(s api.LtScene, road int, c api.LtClass) (bool, api.Errno) {
	r, e := Judge(s, road, c)
	if e != api.OK {
		return false, e
	}
	return r.Average.Lo >= c.Average && r.Least.Lo >= c.Least && r.Uniform >= c.Uniform && r.Glare <= c.Glare, api.OK
}

// checkClass returns the error of a scene, or the first one of a road and its class.
func checkClass(s api.LtScene, road int, c api.LtClass) api.Errno {
	_, _, e := Check(s)
	switch {
	case e != api.OK:
		return e
	case !within(road, 0, len(s.Road.Roads)-1):
		return api.ErrNone
	case c.Kind != api.LtLux && c.Kind != api.LtBright:
		return api.ErrArg
	case !isInRange(c):
		return api.ErrRange
	case !isDirection([2]int{c.DX, c.DY}):
		return api.ErrArg
	case c.Kind == api.LtBright && s.Surface == nothing:
		return api.ErrNone
	}
	return api.OK
}

// isInRange reports whether the numbers of a class are in their ranges, but its direction.
func isInRange(c api.LtClass) bool {
	return within(c.Average, 0, maxAsked) && within(c.Least, 0, maxAsked) && within(c.Uniform, 0, api.All) &&
		within(c.Glare, 0, api.MaxGlare) && within(c.Step, api.MinRdStep, api.MaxRdPlace)
}

// patchesOf returns the patches of a road, as far as their coordinates are those of places.
func patchesOf(s api.LtScene, at, step int) ([]api.RdPatch, api.Errno) {
	squares, e := road.Patches(s.Road, at, step)
	if e != api.OK {
		return nil, e
	}
	var list []api.RdPatch
	for _, p := range squares {
		p.X0, p.Y0 = max(p.X0, -api.MaxRdPlace), max(p.Y0, -api.MaxRdPlace)
		p.X1, p.Y1 = min(p.X1, api.MaxRdPlace), min(p.Y1, api.MaxRdPlace)
		if isPatch(p) {
			list = append(list, p)
		}
	}
	return list, api.OK
}

// judge returns the light of the patches of a road. There is at least one: the points of a road are places.
func judge(s api.LtScene, list []api.RdPatch, c api.LtClass) api.LtResult {
	value := valueOf(s, c)
	r := api.LtResult{Patches: len(list)}
	var total api.Encl
	for i, p := range list {
		x := value(p)
		total.Lo += x.Lo
		total.Hi += x.Hi
		if i == 0 || x.Lo < r.Least.Lo {
			r.Least.Lo, r.Worst = x.Lo, i
		}
		if i == 0 || x.Hi < r.Least.Hi {
			r.Least.Hi = x.Hi
		}
	}
	count := divisor(len(list))
	r.Average = api.Encl{Lo: count.down(total.Lo), Hi: count.up(total.Hi)}
	if r.Average.Hi > 0 {
		r.Uniform = divisor(r.Average.Hi).down(1000 * r.Least.Lo)
	}
	if c.Kind == api.LtBright {
		r.Glare = glare(greatestVeil(s, list, c), r.Average.Lo)
	}
	return r
}

// valueOf returns the function that tells the value of a patch for a class.
func valueOf(s api.LtScene, c api.LtClass) func(p api.RdPatch) api.Encl {
	if c.Kind == api.LtBright {
		return func(p api.RdPatch) api.Encl { return bright(s, p, [2]int{c.DX, c.DY}) }
	}
	return func(p api.RdPatch) api.Encl { return lux(s, p) }
}

// greatestVeil returns the greatest veil that there may be at the middle of a patch.
func greatestVeil(s api.LtScene, list []api.RdPatch, c api.LtClass) int {
	half, most := divisor(2), 0
	for _, p := range list {
		v := api.LtView{X: half.down(p.X0 + p.X1), Y: half.down(p.Y0 + p.Y1), DX: c.DX, DY: c.DY}
		most = max(most, veil(s, v).Hi)
	}
	return most
}

// glare returns how much of the average luminance a veil has, in per mille.
func glare(veil, average int) int {
	if average == 0 {
		return api.MaxGlare
	}
	return min(divisor(average).up(1000*veil), api.MaxGlare)
}
