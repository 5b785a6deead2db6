package light

import (
	"slices"

	"linkboy/api"
	"linkboy/lamp"
	"linkboy/road"
)

// Parts of a scene, as Check returns them.
const (
	partCatalog = 1
	partRoad    = 2
	partSurface = 3
	partColumns = 4
)

const nothing = -1 // instead of an index: a column without a lamp, a scene without a surface

// Check checks a scene.
func Check(s api.LtScene) (part, at int, e api.Errno) {
	if _, _, e := lamp.Check(s.Catalog); e != api.OK {
		return partCatalog, 0, e
	}
	if _, _, e := road.Check(s.Road); e != api.OK {
		return partRoad, 0, e
	}
	if e := checkSurface(s); e != api.OK {
		return partSurface, 0, e
	}
	if len(s.Lamps) != len(s.Road.Columns) || len(s.Uses) != len(s.Road.Columns) {
		return partColumns, 0, api.ErrArg
	}
	for at := range s.Lamps {
		if e := checkLantern(s, at); e != api.OK {
			return partColumns, at, e
		}
	}
	return 0, 0, api.OK
}

// checkSurface returns the error of the surface of a scene.
func checkSurface(s api.LtScene) api.Errno {
	if s.Surface == nothing {
		return api.OK
	}
	if !within(s.Surface, 0, len(s.Catalog.Tables)-1) {
		return api.ErrNone
	}
	t := &s.Catalog.Tables[s.Surface]
	if max(greatestValue(t), t.Side) > api.MaxReflect {
		return api.ErrRange
	}
	return api.OK
}

// checkLantern returns the first error of what is on a column.
func checkLantern(s api.LtScene, at int) api.Errno {
	n := s.Lamps[at]
	if !within(n, nothing, len(s.Catalog.Lamps)-1) {
		return api.ErrNone
	}
	if !isUse(s.Uses[at]) || n != nothing && isDazzling(&s.Catalog, n) {
		return api.ErrRange
	}
	return api.OK
}

// isUse reports whether the numbers of a use are in their ranges.
func isUse(u api.LmUse) bool {
	return within(u.Hours, 0, api.MaxHours) && within(u.Months, 0, api.MaxMonths) && within(u.Level, 0, api.All)
}

// isDazzling reports whether a lamp can be brighter than lamps on columns may be.
func isDazzling(c *api.LmCatalog, at int) bool {
	l := &c.Lamps[at]
	return greatest(&c.Tables[l.Table])*l.Lumens > 1000*api.MaxBeam
}

// greatest returns the greatest intensity of a table in any direction.
func greatest(t *api.LmTable) int { return max(greatestValue(t), t.Side, t.Sky) }

// greatestValue returns the greatest of the values of a table.
func greatestValue(t *api.LmTable) int {
	most := 0
	for _, row := range t.Values {
		most = max(most, slices.Max(row))
	}
	return most
}

// checkPatch returns the error of a scene, or of a patch.
func checkPatch(s api.LtScene, p api.RdPatch) api.Errno {
	if _, _, e := Check(s); e != api.OK {
		return e
	}
	if !isPatch(p) {
		return api.ErrRange
	}
	return api.OK
}

// isPatch reports whether a patch is as stated.
func isPatch(p api.RdPatch) bool {
	return p.X0 <= p.X1 && p.Y0 <= p.Y1 && isPlace(p.X0, p.Y0) && isPlace(p.X1, p.Y1)
}

// isPlace reports whether two numbers are the coordinates of a place.
func isPlace(x, y int) bool {
	return within(x, -api.MaxRdPlace, api.MaxRdPlace) && within(y, -api.MaxRdPlace, api.MaxRdPlace)
}

// isDirection reports whether two numbers are a direction.
func isDirection(d [2]int) bool {
	return d != [2]int{} && isHeading(d[0]) && isHeading(d[1])
}

func isHeading(n int) bool { return within(n, -api.MaxRdHeading, api.MaxRdHeading) }

// within reports whether a number is in a range.
func within(n, least, most int) bool { return least <= n && n <= most }
