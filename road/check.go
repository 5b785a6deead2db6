package road

import "linkboy/api"

// Parts of a scene, as Check returns them.
const (
	partRoads   = 1
	partTrees   = 2
	partFronts  = 3
	partColumns = 4
)

const minPoints = 2 // of a road

// Check returns the part, the index in it and the error of a scene.
func Check(s api.RdScene) (part, at int, e api.Errno) {
	if len(s.Roads) > api.MaxRdRoads || len(s.Trees) > api.MaxRdTrees || len(s.Fronts) > api.MaxRdFronts || len(s.Columns) > api.MaxRdColumns {
		return 0, 0, api.ErrLong
	}
	if at, e := firstError(s.Roads, checkRoad); e != api.OK {
		return partRoads, at, e
	}
	if at, e := firstError(s.Trees, checkTree); e != api.OK {
		return partTrees, at, e
	}
	if at, e := firstError(s.Fronts, checkFront); e != api.OK {
		return partFronts, at, e
	}
	if at, e := firstError(s.Columns, checkColumn); e != api.OK {
		return partColumns, at, e
	}
	return 0, 0, api.OK
}

// firstError returns where the first element of a list with an error is, and its error.
func firstError[T any](list []T, check func(list []T, at int) api.Errno) (at int, e api.Errno) {
	for at := range list {
		if e := check(list, at); e != api.OK {
			return at, e
		}
	}
	return 0, api.OK
}

// pick returns an element of a list of a scene, which is checked before.
func pick[T any](s api.RdScene, list []T, at int) (*T, api.Errno) {
	if _, _, e := Check(s); e != api.OK {
		return nil, e
	}
	return element(list, at)
}

// element returns an element of a list, if there is one.
func element[T any](list []T, at int) (*T, api.Errno) {
	if at < 0 || at >= len(list) {
		return nil, api.ErrNone
	}
	return &list[at], api.OK
}

// checkRoad returns the first error of a road.
func checkRoad(roads []api.RdRoad, at int) api.Errno {
	r := &roads[at]
	nameOf := func(i int) string { return roads[i].Name }
	switch {
	case !isName(r.Name):
		return api.ErrForm
	case isTaken(at, nameOf):
		return api.ErrTwice
	case !within(r.Kind, api.RdCarriage, api.RdCrossing):
		return api.ErrArg
	case len(r.Points) < minPoints:
		return api.ErrNone
	case len(r.Points) > api.MaxRdPoints:
		return api.ErrLong
	case !arePlaces(r.Points...) || !within(r.Width, api.MinRdWidth, api.MaxRdWidth):
		return api.ErrRange
	case !hasLength(r) || r.Kind == api.RdCrossing && len(r.Points) > minPoints:
		return api.ErrArg
	}
	return api.OK
}

// hasLength reports whether no piece of a road is a mere point.
func hasLength(r *api.RdRoad) bool {
	for p := range pieces(r) {
		if p.from == p.to {
			return false
		}
	}
	return true
}

// checkTree returns the error of a tree.
func checkTree(trees []api.RdTree, at int) api.Errno {
	t := &trees[at]
	if !isPlace(t.X, t.Y) || !within(t.R, 1, api.MaxRdCrown) || !isSpan(t.Low, t.High, api.MaxRdTall) {
		return api.ErrRange
	}
	return api.OK
}

// checkFront returns the first error of a front.
func checkFront(fronts []api.RdFront, at int) api.Errno {
	f := &fronts[at]
	switch {
	case !arePlaces(f.A, f.B):
		return api.ErrRange
	case f.A == f.B:
		return api.ErrArg
	case len(f.Windows) > api.MaxRdWindows:
		return api.ErrLong
	}
	_, e := firstError(f.Windows, checkWindow)
	return e
}

// checkWindow returns the error of a window.
func checkWindow(windows []api.RdWindow, at int) api.Errno {
	w := &windows[at]
	if !isSpan(w.From, w.To, api.All) || !isSpan(w.Low, w.High, api.MaxRdTall) {
		return api.ErrRange
	}
	return api.OK
}

// checkColumn returns the first error of a column.
func checkColumn(columns []api.RdColumn, at int) api.Errno {
	c := &columns[at]
	nameOf := func(i int) string { return columns[i].Name }
	switch {
	case !isName(c.Name):
		return api.ErrForm
	case isTaken(at, nameOf):
		return api.ErrTwice
	case !isPlace(c.X, c.Y) || !within(c.Height, 1, api.MaxRdHeight) || !isHeading(c.DX) || !isHeading(c.DY):
		return api.ErrRange
	case c.DX == 0 && c.DY == 0:
		return api.ErrArg
	}
	return api.OK
}

// isName reports whether a string is a name.
func isName(s string) bool {
	if len(s) > api.MaxName {
		return false
	}
	for i := range len(s) {
		letter := 'a' <= s[i] && s[i] <= 'z'
		other := '0' <= s[i] && s[i] <= '9' || s[i] == '-'
		if !letter && (i == 0 || !other) {
			return false
		}
	}
	return s != ""
}

// isTaken reports whether an element before the one at a position has the name of this one.
func isTaken(at int, nameOf func(int) string) bool {
	for i := range at {
		if nameOf(i) == nameOf(at) {
			return true
		}
	}
	return false
}

// within reports whether a number is in a range.
func within(n, least, most int) bool { return least <= n && n <= most }

// isPlace reports whether two numbers are the coordinates of a place.
func isPlace(x, y int) bool { return arePlaces([2]int{x, y}) }

// arePlaces reports whether all points are places.
func arePlaces(points ...[2]int) bool {
	for _, p := range points {
		for _, n := range p {
			if !within(n, -api.MaxRdPlace, api.MaxRdPlace) {
				return false
			}
		}
	}
	return true
}

// isPatch reports whether a patch is as stated.
func isPatch(p api.RdPatch) bool {
	return p.X0 <= p.X1 && p.Y0 <= p.Y1 && isPlace(p.X0, p.Y0) && isPlace(p.X1, p.Y1)
}

// isSpan reports whether two numbers from 0 on ascend, up to the greatest one.
func isSpan(low, high, most int) bool { return 0 <= low && low < high && high <= most }

func isHeading(n int) bool { return within(n, -api.MaxRdHeading, api.MaxRdHeading) }
