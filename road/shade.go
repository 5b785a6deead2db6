package road

import (
	"iter"

	"linkboy/api"
)

const notShaded = -1

// shadows yields the shadows of the trees in the light of a column.
func shadows(s api.RdScene, c *api.RdColumn) iter.Seq[zone] {
	return func(yield func(zone) bool) {
		for _, t := range s.Trees {
			if !yield(shadow(t, c)) {
				return
			}
		}
	}
}

// shadow returns the set of all points that a tree shades from the lamp of a column.
func shadow(t api.RdTree, c *api.RdColumn) zone {
	low, high := t.Low, min(t.High, c.Height)
	return func(p api.RdPatch) bool {
		// The lines from the lamp to the patch fill a pyramid; its cut at a height is seen here from the axis of the crown,
		// and is as much larger as the lamp is high. All cuts between two heights, laid over each other, are the hull of two.
		cut := func(h int) api.RdPatch {
			return scaled(p, c.Height-h, h*c.X-c.Height*t.X, h*c.Y-c.Height*t.Y)
		}
		return low <= high && hullReaches(cut(low), cut(high), c.Height*t.R)
	}
}

// Shaded returns the first tree that shades a point from a lamp.
func Shaded(s api.RdScene, column, x, y int) (tree int, e api.Errno) {
	c, e := pick(s, s.Columns, column)
	if e != api.OK {
		return 0, e
	}
	if !isPlace(x, y) {
		return 0, api.ErrRange
	}
	at := 0
	for shades := range shadows(s, c) {
		if shades(spot([2]int{x, y})) {
			return at, api.OK
		}
		at++
	}
	return notShaded, api.OK
}

// Shade returns how a patch is shaded from a lamp.
func Shade(s api.RdScene, column int, p api.RdPatch) (int, api.Errno) {
	c, e := pick(s, s.Columns, column)
	if e != api.OK {
		return 0, e
	}
	if !isPatch(p) {
		return 0, api.ErrRange
	}
	return extent(shadows(s, c), p, api.RdLit, api.RdPart, api.RdDark), api.OK
}
