package layout_test

import (
	"math"
	"strconv"
	"testing"

	"linkboy/api"
	"linkboy/layout"
)

func wantCheck(t *testing.T, what string, k api.LoTask, part, at int, e api.Errno) {
	t.Helper()
	if p, a, f := layout.Check(k); p != part || a != at || f != e {
		t.Errorf("%s: Check = %d, %d, %d, want %d, %d, %d", what, p, a, f, part, at, e)
	}
}

type change struct {
	name     string
	part, at int
	e        api.Errno
	do       func(t *api.LoTask)
}

// addColumn puts a column into the scene of a task, which is all right for package light.
func addColumn(t *api.LoTask) {
	t.Scene.Road.Columns = []api.RdColumn{{Name: "a", Height: 1, DX: 1}}
	t.Scene.Lamps, t.Scene.Uses = []int{-1}, []api.LmUse{{}}
}

// changes are errors of the task street, in the order of their parts; those of numbers are in numbers.
func changes() []change {
	list := []change{
		{"catalogue", 1, 0, api.ErrForm, func(t *api.LoTask) { t.Scene.Catalog.Lamps[1].Name = "A" }},
		{"scene", 1, 0, api.ErrLong, func(t *api.LoTask) { t.Scene.Road.Trees = make([]api.RdTree, 13) }},
		{"surface", 1, 0, api.ErrNone, func(t *api.LoTask) { t.Scene.Surface = 3 }},
		{"lamps without columns", 1, 0, api.ErrArg, func(t *api.LoTask) { t.Scene.Lamps = []int{-1} }},
		{"uses without columns", 1, 0, api.ErrArg, func(t *api.LoTask) { t.Scene.Uses = []api.LmUse{{}} }},
		{"column", 1, 0, api.ErrArg, addColumn},
		{"no sites", 2, 0, api.ErrLong, func(t *api.LoTask) { t.Sites = nil }},
		{"sites", 2, 0, api.ErrLong, func(t *api.LoTask) { t.Sites = make([]api.LoSite, 25) }},
		{"no poles", 2, 0, api.ErrLong, func(t *api.LoTask) { t.Poles = nil }},
		{"poles", 2, 0, api.ErrLong, func(t *api.LoTask) { t.Poles = make([]api.LoPole, 5) }},
		{"no lamps", 2, 0, api.ErrLong, func(t *api.LoTask) { t.Lamps = []api.LoLamp{} }},
		{"lamps", 2, 0, api.ErrLong, func(t *api.LoTask) { t.Lamps = make([]api.LoLamp, 5) }},
		{"no levels", 2, 0, api.ErrLong, func(t *api.LoTask) { t.Levels = nil }},
		{"levels", 2, 0, api.ErrLong, func(t *api.LoTask) { t.Levels = []int{1, 2, 3, 4, 5} }},
		{"needs", 2, 0, api.ErrLong, func(t *api.LoTask) { t.Needs = make([]api.LoNeed, 4) }},
		{"layouts", 2, 0, api.ErrLong, func(t *api.LoTask) { t.Steps, t.Poles, t.Levels = 4, make([]api.LoPole, 4), []int{1, 2, 3} }},
	}
	for _, n := range []int{0, 5, -1, math.MinInt, math.MaxInt, 1 << 62} {
		list = append(list, change{"steps " + strconv.Itoa(n), 2, 0, api.ErrLong, func(t *api.LoTask) { t.Steps = n }})
	}
	return append(list, []change{
		{"no heading", 3, 2, api.ErrArg, func(t *api.LoTask) { t.Sites[2].DX, t.Sites[2].DY = 0, 0 }},
		{"lamp below", 5, 1, api.ErrNone, func(t *api.LoTask) { t.Lamps[1].Lamp = -1 }},
		{"lamp above", 5, 1, api.ErrNone, func(t *api.LoTask) { t.Lamps[1].Lamp = 3 }},
		{"lamp far below", 5, 1, api.ErrNone, func(t *api.LoTask) { t.Lamps[1].Lamp = math.MinInt }},
		{"lamp far above", 5, 1, api.ErrNone, func(t *api.LoTask) { t.Lamps[1].Lamp = math.MaxInt }},
		{"level again", 6, 1, api.ErrArg, func(t *api.LoTask) { t.Levels[1] = t.Levels[0] }},
		{"level below the one before", 6, 1, api.ErrArg, func(t *api.LoTask) { t.Levels[1] = 1 }},
		{"road below", 7, 1, api.ErrNone, func(t *api.LoTask) { t.Needs[1].Road = -1 }},
		{"road above", 7, 1, api.ErrNone, func(t *api.LoTask) { t.Needs[1].Road = 2 }},
		{"kind", 7, 1, api.ErrArg, func(t *api.LoTask) { t.Needs[1].Class.Kind = 3 }},
		{"average", 7, 1, api.ErrRange, func(t *api.LoTask) { t.Needs[1].Class.Average = -1 }},
		{"step", 7, 1, api.ErrRange, func(t *api.LoTask) { t.Needs[1].Class.Step = 99 }},
		{"direction", 7, 1, api.ErrArg, func(t *api.LoTask) { t.Needs[1].Class.DX = 0 }},
		{"luminance without a surface", 7, 0, api.ErrNone, func(t *api.LoTask) { t.Scene.Surface = -1 }},
		{"patches", 7, 1, api.ErrLong, func(t *api.LoTask) { t.Needs[1].Class.Step = 100 }},
		{"goal below", 8, 0, api.ErrArg, func(t *api.LoTask) { t.Goal = 0 }},
		{"goal above", 8, 0, api.ErrArg, func(t *api.LoTask) { t.Goal = 3 }},
		{"goal far below", 8, 0, api.ErrArg, func(t *api.LoTask) { t.Goal = math.MinInt }},
	}...)
}

// number is a number of the task street, with the least and the greatest that it may be; an unbounded one has no greatest.
type number struct {
	name      string
	part, at  int
	lo, hi    int
	of        func(t *api.LoTask) *int
	unbounded bool
}

const partLevels = 6

// numbers are the numbers of the task street.
func numbers() []number {
	return []number{
		{name: "x", part: 3, at: 7, lo: -100000, hi: 100000, of: func(t *api.LoTask) *int { return &t.Sites[7].X }},
		{name: "y", part: 3, at: 7, lo: -100000, hi: 100000, of: func(t *api.LoTask) *int { return &t.Sites[7].Y }},
		{name: "dx", part: 3, at: 7, lo: -1000, hi: 1000, of: func(t *api.LoTask) *int { return &t.Sites[7].DX }},
		{name: "dy", part: 3, at: 7, lo: -1000, hi: 1000, of: func(t *api.LoTask) *int { return &t.Sites[7].DY }},
		{name: "height", part: 4, at: 1, lo: 1, hi: 200, of: func(t *api.LoTask) *int { return &t.Poles[1].Height }},
		{name: "price of a pole", part: 4, at: 1, lo: 0, hi: 100000000, of: func(t *api.LoTask) *int { return &t.Poles[1].Price }},
		{name: "price of a lamp", part: 5, at: 1, lo: 0, hi: 100000000, of: func(t *api.LoTask) *int { return &t.Lamps[1].Price }},
		{name: "hours of a lamp", part: 5, at: 1, lo: 0, hi: 200000, of: func(t *api.LoTask) *int { return &t.Lamps[1].Hours }},
		{name: "months", part: 5, at: 1, lo: 0, hi: 600, of: func(t *api.LoTask) *int { return &t.Lamps[1].Months }},
		{name: "first level", part: 6, at: 0, lo: 1, hi: 999, of: func(t *api.LoTask) *int { return &t.Levels[0] }},
		{name: "last level", part: 6, at: 1, lo: 501, hi: 1000, of: func(t *api.LoTask) *int { return &t.Levels[1] }},
		{name: "sky", part: 8, lo: 0, of: func(t *api.LoTask) *int { return &t.Sky }, unbounded: true},
		{name: "window", part: 8, lo: 0, of: func(t *api.LoTask) *int { return &t.Window }, unbounded: true},
		{name: "hours", part: 8, lo: 0, hi: 1000000, of: func(t *api.LoTask) *int { return &t.Hours }},
		{name: "price of energy", part: 8, lo: 0, hi: 10000, of: func(t *api.LoTask) *int { return &t.PerKwh }},
	}
}

// P5.1
func TestCheckErrors(t *testing.T) {
	wantCheck(t, "example", example(), 0, 0, api.OK)
	wantCheck(t, "street", street(), 0, 0, api.OK)
	for _, c := range changes() {
		wantCheck(t, c.name, changed(street(), c.do), c.part, c.at, c.e)
	}
}

// P5.1: numbers at the ends of their ranges, and beyond them.
func TestCheckRanges(t *testing.T) {
	for _, x := range numbers() {
		with := func(n int) api.LoTask { return changed(street(), func(t *api.LoTask) { *x.of(t) = n }) }
		good, bad := []int{x.lo, x.hi}, []int{x.lo - 1, x.hi + 1, math.MinInt, math.MaxInt}
		if x.unbounded {
			good, bad = []int{x.lo, math.MaxInt}, []int{x.lo - 1, math.MinInt}
		}
		for _, n := range good {
			wantCheck(t, x.name, with(n), 0, 0, api.OK)
		}
		if x.part == partLevels { // the ranges above end at the other level
			bad = []int{0, -1, 1001, math.MinInt, math.MaxInt}
		}
		for _, n := range bad {
			wantCheck(t, x.name, with(n), x.part, x.at, api.ErrRange)
		}
	}
}

// P5.1, R1: of errors in two parts that of the earlier one, and of two errors of one element the one named first.
func TestCheckOrder(t *testing.T) {
	list := changes()
	for i, first := range list {
		for _, later := range list[i+1:] {
			if first.part < later.part {
				k := changed(street(), later.do)
				wildly(func() { first.do(&k) })
				wantCheck(t, first.name+" and "+later.name, k, first.part, first.at, first.e)
			}
		}
	}
	for _, x := range numbers() {
		for _, c := range changes() {
			k := changed(street(), func(t *api.LoTask) { *x.of(t) = -1000000000 })
			wildly(func() { c.do(&k) })
			if x.part == partLevels && c.part == partLevels { // the change may take the number back
				continue
			}
			part, at, e := c.part, c.at, c.e
			isNamedFirst := c.e != api.ErrNone // of a lamp its index is named before its numbers, of others all else after
			if x.part < c.part || x.part == c.part && (x.at < c.at || x.at == c.at && isNamedFirst) {
				part, at, e = x.part, x.at, api.ErrRange
			}
			wantCheck(t, x.name+" and "+c.name, k, part, at, e)
		}
	}
}

// wildly does what may panic, because a change is not possible in a task that is changed already.
func wildly(do func()) {
	defer func() { _ = recover() }()
	do()
}

// P5.1: the first element with an error decides, and of its errors the one that is named first.
func TestCheckFirstElement(t *testing.T) {
	k := street()
	k.Sites[0] = api.LoSite{X: 100001}
	k.Sites[1] = api.LoSite{}
	wantCheck(t, "range before heading", k, 3, 0, api.ErrRange)
	k.Sites[0] = api.LoSite{}
	k.Sites[1] = api.LoSite{X: 100001}
	wantCheck(t, "heading before range", k, 3, 0, api.ErrArg)
	k = street()
	k.Lamps[0].Price, k.Lamps[1].Lamp = -1, -1
	wantCheck(t, "price before lamp", k, 5, 0, api.ErrRange)
	k.Lamps[0].Lamp = 3
	wantCheck(t, "lamp and its price", k, 5, 0, api.ErrNone)
	k = street()
	k.Levels = []int{500, 400, 0}
	wantCheck(t, "level that descends, and one that is none", k, 6, 1, api.ErrArg)
	k.Levels = []int{500, 0, 400}
	wantCheck(t, "level that is none", k, 6, 1, api.ErrRange)
	k.Levels = []int{500, 1001, 400}
	wantCheck(t, "level above all", k, 6, 1, api.ErrRange)
	k = street()
	k.Needs[0].Class.Step, k.Needs[1].Road = 99, -1
	wantCheck(t, "step before road", k, 7, 0, api.ErrRange)
	k.Needs[0].Road = 7
	wantCheck(t, "road and step", k, 7, 0, api.ErrNone)
}

// P5.1: as many elements as there may be, and as few.
func TestCheckCounts(t *testing.T) {
	ascending := []int{1, 2, 999, 1000}
	for _, c := range []struct{ poles, lamps, levels, steps int }{{1, 1, 1, 1}, {4, 4, 4, 1}, {4, 4, 1, 4}, {1, 4, 4, 4}, {4, 1, 4, 4}, {4, 2, 4, 2}} {
		k := street()
		k.Levels = ascending[:c.levels]
		k.Steps = c.steps
		k.Poles, k.Lamps = make([]api.LoPole, c.poles), make([]api.LoLamp, c.lamps)
		for i := range k.Poles {
			k.Poles[i].Height = 1
		}
		wantCheck(t, "at the limit", k, 0, 0, api.OK)
		if n := 4 * c.poles * c.lamps * c.levels * c.steps; len(all(t, k)) != n {
			t.Errorf("%+v: not %d layouts", c, n)
		}
		if c.steps++; c.poles*c.lamps*c.levels*c.steps > 64 {
			k.Steps = c.steps
			wantCheck(t, "above the limit", k, 2, 0, api.ErrLong)
		}
	}
	k := street()
	k.Needs = nil
	wantCheck(t, "no needs", k, 0, 0, api.OK)
	k.Needs = []api.LoNeed{{Class: anything(1)}, {Class: anything(1)}, {Class: anything(2)}}
	wantCheck(t, "three needs of one road", k, 0, 0, api.OK)
	k.Sites = k.Sites[:1]
	wantCheck(t, "one site", k, 0, 0, api.OK)
	for len(k.Sites) < 24 {
		k.Sites = append(k.Sites, k.Sites[0]) // sites may be at the same place
	}
	wantCheck(t, "24 sites", k, 0, 0, api.OK)
	k.Lamps[0].Lamp = 2
	wantCheck(t, "a lamp that is too bright", k, 0, 0, api.OK)
	k.Scene.Surface, k.Needs = -1, k.Needs[:2]
	wantCheck(t, "no surface", k, 0, 0, api.OK)
}
