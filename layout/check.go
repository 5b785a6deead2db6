package layout

import (
	"linkboy/api"
	"linkboy/light"
)

const countSides = api.LoZigzag // in how many ways columns stand on the sides of a road

// section is a part of a task: how many elements it has, and what tells the error of one of them.
type section struct {
	count int
	check func(t *api.LoTask, at int) api.Errno
}

// sections returns the parts of a task, in their order. A part that is no list counts as one element.
func sections(t *api.LoTask) [8]section {
	return [...]section{
		{1, checkScene},
		{1, checkCounts},
		{len(t.Sites), checkSite},
		{len(t.Poles), checkPole},
		{len(t.Lamps), checkLamp},
		{len(t.Levels), checkLevel},
		{len(t.Needs), checkNeed},
		{1, checkAims},
	}
}

// Check checks a task.
func Check(t api.LoTask) (part, at int, e api.Errno) {
	for i, s := range sections(&t) {
		for at := range s.count {
			if e := s.check(&t, at); e != api.OK {
				return i + 1, at, e
			}
		}
	}
	return 0, 0, api.OK
}

// checkScene returns the error of the scene of a task.
func checkScene(t *api.LoTask, _ int) api.Errno {
	if _, _, e := light.Check(t.Scene); e != api.OK {
		return e
	}
	if len(t.Scene.Road.Columns) > 0 {
		return api.ErrArg
	}
	return api.OK
}

// checkCounts returns the error of how many elements a task has, and how many layouts.
func checkCounts(t *api.LoTask, _ int) api.Errno {
	layouts := countSides
	for _, choices := range [...]int{len(t.Poles), len(t.Lamps), len(t.Levels), t.Steps} {
		if !within(choices, 1, api.MaxLoChoices) {
			return api.ErrLong
		}
		layouts *= choices
	}
	if !within(len(t.Sites), 1, api.MaxLoSites) || len(t.Needs) > api.MaxLoNeeds || layouts > api.MaxLayouts {
		return api.ErrLong
	}
	return api.OK
}

// checkSite returns the error of a site.
func checkSite(t *api.LoTask, at int) api.Errno {
	s := t.Sites[at]
	switch {
	case !isCoordinate(s.X) || !isCoordinate(s.Y) || !isHeading(s.DX) || !isHeading(s.DY):
		return api.ErrRange
	case s.DX == 0 && s.DY == 0:
		return api.ErrArg
	}
	return api.OK
}

// checkPole returns the error of a pole.
func checkPole(t *api.LoTask, at int) api.Errno {
	p := t.Poles[at]
	return inRange(within(p.Height, 1, api.MaxRdHeight) && isPrice(p.Price))
}

// checkLamp returns the error of a lamp.
func checkLamp(t *api.LoTask, at int) api.Errno {
	l := t.Lamps[at]
	if !within(l.Lamp, 0, len(t.Scene.Catalog.Lamps)-1) {
		return api.ErrNone
	}
	return inRange(isPrice(l.Price) && within(l.Hours, 0, api.MaxHours) && within(l.Months, 0, api.MaxMonths))
}

// checkLevel returns the error of a level.
func checkLevel(t *api.LoTask, at int) api.Errno {
	switch {
	case !within(t.Levels[at], 1, api.All):
		return api.ErrRange
	case at > 0 && t.Levels[at] <= t.Levels[at-1]:
		return api.ErrArg
	}
	return api.OK
}

// checkNeed returns the error of a need.
func checkNeed(t *api.LoTask, at int) api.Errno {
	_, e := light.Judge(t.Scene, t.Needs[at].Road, t.Needs[at].Class)
	return e
}

// checkAims returns the error of what a layout is chosen by.
func checkAims(t *api.LoTask, _ int) api.Errno {
	if t.Sky < 0 || t.Window < 0 || !within(t.Hours, 0, api.MaxLoHours) || !within(t.PerKwh, 0, api.MaxPerKwh) {
		return api.ErrRange
	}
	if t.Goal != api.LoCheap && t.Goal != api.LoSaving {
		return api.ErrArg
	}
	return api.OK
}

// checkLayout returns the error of a task, or of a layout that is none of it.
func checkLayout(t *api.LoTask, l api.LoLayout) api.Errno {
	if _, _, e := Check(*t); e != api.OK {
		return e
	}
	if !isLayout(t, l) {
		return api.ErrNone
	}
	return api.OK
}

// isLayout reports whether a layout is one of a task.
func isLayout(t *api.LoTask, l api.LoLayout) bool {
	return isIndex(l.Pole, t.Poles) && isIndex(l.Lamp, t.Lamps) && isIndex(l.Level, t.Levels) &&
		within(l.Step, 1, t.Steps) && within(l.Sides, api.LoLeft, api.LoZigzag)
}

// inRange returns the error of numbers that are, or are not, in their ranges.
func inRange(is bool) api.Errno {
	if is {
		return api.OK
	}
	return api.ErrRange
}

func isCoordinate(n int) bool { return within(n, -api.MaxRdPlace, api.MaxRdPlace) }

func isHeading(n int) bool { return within(n, -api.MaxRdHeading, api.MaxRdHeading) }

func isPrice(n int) bool { return within(n, 0, api.MaxPrice) }

// isIndex reports whether a number is the index of an element of a list.
func isIndex[T any](n int, list []T) bool { return within(n, 0, len(list)-1) }

// within reports whether a number is in a range.
func within(n, least, most int) bool { return least <= n && n <= most }
