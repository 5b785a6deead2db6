package feed_test

import (
	"fmt"
	"math"
	"strings"
	"testing"

	"linkboy/api"
	"linkboy/feed"
)

func wantCheck(t *testing.T, what string, f api.FeFeeder, part, at int, e api.Errno) {
	t.Helper()
	if p, a, x := feed.Check(f); p != part || a != at || x != e {
		t.Errorf("%s: Check = %d, %d, %d, want %d, %d, %d", what, p, a, x, part, at, e)
	}
}

type change struct {
	name     string
	part, at int
	e        api.Errno
	do       func(f *api.FeFeeder)
}

// more returns a list with copies of its last element, so many that it has n.
func more[T any](list []T, n int) []T {
	for len(list) < n {
		list = append(list, list[len(list)-1])
	}
	return list
}

// changes are errors of the feeder town, in the order in which they are named; those of numbers are in numbers.
func changes() []change {
	return []change{
		{"cables", 0, 0, api.ErrLong, func(f *api.FeFeeder) { f.Cables = more(f.Cables, 11) }},
		{"fuses", 0, 0, api.ErrLong, func(f *api.FeFeeder) { f.Fuses = more(f.Fuses, 11) }},
		{"nodes", 0, 0, api.ErrLong, func(f *api.FeFeeder) { f.Nodes = more(f.Nodes, 41) }},
		{"no node", 0, 0, api.ErrNone, func(f *api.FeFeeder) { f.Nodes = nil }},
		{"empty nodes", 0, 0, api.ErrNone, func(f *api.FeFeeder) { f.Nodes = []api.FeNode{} }},
		{"volts", 0, 0, api.ErrRange, func(f *api.FeFeeder) { f.Volts = encl(240001, 240000) }},
		{"source", 0, 0, api.ErrRange, func(f *api.FeFeeder) { f.Source = encl(2, 1) }},
		{"limit", 0, 0, api.ErrRange, func(f *api.FeFeeder) { f.Limit = 0 }},
		{"name of a cable", 1, 1, api.ErrForm, func(f *api.FeFeeder) { f.Cables[1].Name = "Steel" }},
		{"empty name of a cable", 1, 1, api.ErrForm, func(f *api.FeFeeder) { f.Cables[1].Name = "" }},
		{"cable twice", 1, 1, api.ErrTwice, func(f *api.FeFeeder) { f.Cables[1].Name = f.Cables[0].Name }},
		{"core", 1, 1, api.ErrRange, func(f *api.FeFeeder) { f.Cables[1].Core = encl(2501, 2500) }},
		{"earth", 1, 1, api.ErrRange, func(f *api.FeFeeder) { f.Cables[1].Earth = encl(3, 2) }},
		{"name of a fuse", 2, 2, api.ErrForm, func(f *api.FeFeeder) { f.Fuses[2].Name = "6" }},
		{"long name of a fuse", 2, 2, api.ErrForm, func(f *api.FeFeeder) { f.Fuses[2].Name = strings.Repeat("x", 25) }},
		{"fuse twice", 2, 2, api.ErrTwice, func(f *api.FeFeeder) { f.Fuses[2].Name = f.Fuses[0].Name }},
		{"no points", 2, 2, api.ErrLong, func(f *api.FeFeeder) { f.Fuses[2].Points = nil }},
		{"empty points", 2, 2, api.ErrLong, func(f *api.FeFeeder) { f.Fuses[2].Points = []api.FePoint{} }},
		{"points", 2, 2, api.ErrLong, func(f *api.FeFeeder) { f.Fuses[2].Points = more(f.Fuses[2].Points, 9) }},
		{"melt", 2, 2, api.ErrRange, func(f *api.FeFeeder) { f.Fuses[2].Points[1].Melt = encl(60, 20) }},
		{"currents again", 2, 2, api.ErrArg, func(f *api.FeFeeder) { f.Fuses[2].Points[1].Current = 12000 }},
		{"currents descend", 2, 2, api.ErrArg, func(f *api.FeFeeder) { f.Fuses[2].Points[2].Current = 19999 }},
		{"greater lo", 2, 2, api.ErrArg, func(f *api.FeFeeder) { f.Fuses[2].Points[2].Melt = encl(21, 60) }},
		{"greater hi", 2, 2, api.ErrArg, func(f *api.FeFeeder) { f.Fuses[2].Points[1].Melt = encl(20, 91) }},
		{"name of the source", 3, 0, api.ErrForm, func(f *api.FeFeeder) { f.Nodes[0].Name = "a b" }},
		{"parent of the source", 3, 0, api.ErrArg, func(f *api.FeFeeder) { f.Nodes[0].Parent = 0 }},
		{"cable of the source", 3, 0, api.ErrArg, func(f *api.FeFeeder) { f.Nodes[0].Cable = 0 }},
		{"length of the source", 3, 0, api.ErrArg, func(f *api.FeFeeder) { f.Nodes[0].Length = 1 }},
		{"fuse of the source", 3, 0, api.ErrArg, func(f *api.FeFeeder) { f.Nodes[0].Fuse = 0 }},
		{"other fuse of the source", 3, 0, api.ErrArg, func(f *api.FeFeeder) { f.Nodes[0].Fuse = -2 }},
		{"load of the source", 3, 0, api.ErrArg, func(f *api.FeFeeder) { f.Nodes[0].Loads[2].Hi = 1 }},
		{"no load of the source", 3, 0, api.ErrArg, func(f *api.FeFeeder) { f.Nodes[0].Loads[0].Lo = -1 }},
		{"name of a node", 3, 6, api.ErrForm, func(f *api.FeFeeder) { f.Nodes[6].Name = "-f" }},
		{"node twice", 3, 6, api.ErrTwice, func(f *api.FeFeeder) { f.Nodes[6].Name = f.Nodes[0].Name }},
		{"parent below", 3, 6, api.ErrNone, func(f *api.FeFeeder) { f.Nodes[6].Parent = -1 }},
		{"parent itself", 3, 6, api.ErrNone, func(f *api.FeFeeder) { f.Nodes[6].Parent = 6 }},
		{"parent after", 3, 6, api.ErrNone, func(f *api.FeFeeder) { f.Nodes[6].Parent = 7 }},
		{"parent far below", 3, 6, api.ErrNone, func(f *api.FeFeeder) { f.Nodes[6].Parent = math.MinInt }},
		{"parent far above", 3, 6, api.ErrNone, func(f *api.FeFeeder) { f.Nodes[6].Parent = math.MaxInt }},
		{"cable below", 3, 6, api.ErrNone, func(f *api.FeFeeder) { f.Nodes[6].Cable = -1 }},
		{"cable above", 3, 6, api.ErrNone, func(f *api.FeFeeder) { f.Nodes[6].Cable = 2 }},
		{"cable far above", 3, 6, api.ErrNone, func(f *api.FeFeeder) { f.Nodes[6].Cable = math.MaxInt }},
		{"fuse below", 3, 6, api.ErrNone, func(f *api.FeFeeder) { f.Nodes[6].Fuse = -2 }},
		{"fuse above", 3, 6, api.ErrNone, func(f *api.FeFeeder) { f.Nodes[6].Fuse = 3 }},
		{"fuse far below", 3, 6, api.ErrNone, func(f *api.FeFeeder) { f.Nodes[6].Fuse = math.MinInt }},
		{"load", 3, 6, api.ErrRange, func(f *api.FeFeeder) { f.Nodes[6].Loads[1] = encl(41, 40) }},
	}
}

// number is a number of the feeder town, with the least and the greatest that it may be.
type number struct {
	name     string
	part, at int
	lo, hi   int
	of       func(f *api.FeFeeder) *int
}

// numbers are the numbers of the feeder town that have ranges.
func numbers() []number {
	list := []number{
		{"volts lo", 0, 0, 1, 240000, func(f *api.FeFeeder) *int { return &f.Volts.Lo }},
		{"volts hi", 0, 0, 220000, 1000000, func(f *api.FeFeeder) *int { return &f.Volts.Hi }},
		{"source lo", 0, 0, 1, 100000, func(f *api.FeFeeder) *int { return &f.Source.Lo }},
		{"source hi", 0, 0, 50000, 1000000000, func(f *api.FeFeeder) *int { return &f.Source.Hi }},
		{"drop", 0, 0, 0, 1000000, func(f *api.FeFeeder) *int { return &f.Drop }},
		{"limit", 0, 0, 1, 100000000, func(f *api.FeFeeder) *int { return &f.Limit }},
		{"core lo", 1, 1, 1, 2500, func(f *api.FeFeeder) *int { return &f.Cables[1].Core.Lo }},
		{"core hi", 1, 1, 2000, 1000000, func(f *api.FeFeeder) *int { return &f.Cables[1].Core.Hi }},
		{"earth lo", 1, 1, 1, 7000, func(f *api.FeFeeder) *int { return &f.Cables[1].Earth.Lo }},
		{"earth hi", 1, 1, 5000, 1000000, func(f *api.FeFeeder) *int { return &f.Cables[1].Earth.Hi }},
		{"rated cable", 1, 1, 1, 100000000, func(f *api.FeFeeder) *int { return &f.Cables[1].Rated }},
		{"rated fuse", 2, 2, 1, 100000000, func(f *api.FeFeeder) *int { return &f.Fuses[2].Rated }},
		{"first current", 2, 2, 1, 19999, func(f *api.FeFeeder) *int { return &f.Fuses[2].Points[0].Current }},
		{"last current", 2, 2, 20001, 100000000, func(f *api.FeFeeder) *int { return &f.Fuses[2].Points[2].Current }},
		{"melt lo", 2, 2, 1, 3, func(f *api.FeFeeder) *int { return &f.Fuses[2].Points[2].Melt.Lo }},
		{"melt hi", 2, 2, 60, 100000000, func(f *api.FeFeeder) *int { return &f.Fuses[2].Points[0].Melt.Hi }},
		{"length", 3, 6, 1, 5000, func(f *api.FeFeeder) *int { return &f.Nodes[6].Length }},
	}
	for phase := range api.FePhases {
		lo, hi := []int{0, 0, 0}[phase], []int{20, 40, 50}[phase]
		least := []int{10, 30, 0}[phase]
		list = append(list,
			number{fmt.Sprint("load lo ", phase), 3, 6, lo, hi, func(f *api.FeFeeder) *int { return &f.Nodes[6].Loads[phase].Lo }},
			number{fmt.Sprint("load hi ", phase), 3, 6, least, 1000000, func(f *api.FeFeeder) *int { return &f.Nodes[6].Loads[phase].Hi }},
		)
	}
	return list
}

// otherError reports whether a number beyond an end is in its range, so that only the order of points is wrong.
func otherError(name string, n int) bool {
	return name == "first current" && n == 20000 || name == "last current" && n == 20000 || name == "melt hi" && n == 59
}

// P6.1
func TestCheckErrors(t *testing.T) {
	wantCheck(t, "example", example(), 0, 0, api.OK)
	wantCheck(t, "town", town(), 0, 0, api.OK)
	for _, c := range changes() {
		wantCheck(t, c.name, changed(town(), c.do), c.part, c.at, c.e)
	}
}

// P6.1: numbers at the ends of their ranges, and beyond them.
func TestCheckRanges(t *testing.T) {
	for _, x := range numbers() {
		with := func(n int) api.FeFeeder { return changed(town(), func(f *api.FeFeeder) { *x.of(f) = n }) }
		for _, n := range []int{x.lo, x.hi} {
			wantCheck(t, fmt.Sprint(x.name, " ", n), with(n), 0, 0, api.OK)
		}
		for _, n := range []int{x.lo - 1, x.hi + 1, math.MinInt, math.MaxInt} {
			e := api.ErrRange
			if otherError(x.name, n) {
				e = api.ErrArg
			}
			wantCheck(t, fmt.Sprint(x.name, " ", n), with(n), x.part, x.at, e)
		}
	}
	f := town()
	f.Fuses[2].Points = []api.FePoint{point(100000000, 100000000, 100000000)}
	f.Volts, f.Source = encl(1000000, 1000000), encl(1000000000, 1000000000)
	f.Cables[0].Core, f.Cables[0].Earth = encl(1000000, 1000000), encl(1000000, 1000000)
	f.Nodes[1].Loads = loads{encl(1000000, 1000000), encl(1000000, 1000000), encl(1000000, 1000000)}
	wantCheck(t, "all at the greatest end", f, 0, 0, api.OK)
	f.Fuses[2].Points = []api.FePoint{point(1, 1, 1)}
	f.Volts, f.Source = encl(1, 1), encl(1, 1)
	f.Cables[0].Core, f.Cables[0].Earth = encl(1, 1), encl(1, 1)
	wantCheck(t, "all at the least end", f, 0, 0, api.OK)
}

// P6.1, R1: of errors in two parts, or two elements, that of the earlier one, and of two errors of one element the one
// named first.
func TestCheckOrder(t *testing.T) {
	list := changes()
	for i, one := range list {
		for _, later := range list[i+1:] {
			f := changed(town(), later.do)
			if wildly(func() { one.do(&f) }) {
				wantCheck(t, one.name+" and "+later.name, f, one.part, one.at, one.e)
			}
		}
	}
	for _, x := range numbers() {
		for _, c := range changes() {
			f := changed(town(), func(f *api.FeFeeder) { *x.of(f) = -1000000000 })
			c.do(&f)
			still := false
			if !wildly(func() { still = *x.of(&f) == -1000000000 }) || !still { // the change takes the number back
				continue
			}
			part, at, e := c.part, c.at, c.e
			if x.part < c.part || x.part == c.part && (x.at < c.at || x.at == c.at && c.e == api.ErrArg) {
				part, at, e = x.part, x.at, api.ErrRange
			}
			wantCheck(t, x.name+" and "+c.name, f, part, at, e)
		}
	}
}

// wildly does what may panic, because it is not possible in a feeder that is changed already, and reports whether it was.
func wildly(do func()) (was bool) {
	defer func() { was = recover() == nil }()
	do()
	return true
}

// P6.1: the first element with an error decides, and of its errors the one that is named first.
func TestCheckFirstElement(t *testing.T) {
	f := town()
	f.Cables[0].Rated, f.Cables[1].Name = 0, "X"
	wantCheck(t, "rating before name", f, 1, 0, api.ErrRange)
	f = town()
	f.Cables[0].Name = "steel"
	wantCheck(t, "the later one has the name again", f, 1, 1, api.ErrTwice)
	f = town()
	f.Fuses[0].Points[1].Current, f.Fuses[1].Points = 30000, nil
	wantCheck(t, "order of points before no points", f, 2, 0, api.ErrArg)
	f.Fuses[0].Rated = 0
	wantCheck(t, "order of points, and rating", f, 2, 0, api.ErrRange)
	f = town()
	f.Nodes[1].Loads[2].Lo, f.Nodes[2].Parent = -1, 2
	wantCheck(t, "load before parent", f, 3, 1, api.ErrRange)
	f.Nodes[1].Parent = 1
	wantCheck(t, "parent and load", f, 3, 1, api.ErrNone)
	f.Nodes[0].Length = 1
	wantCheck(t, "source", f, 3, 0, api.ErrArg)
	f = town()
	f.Nodes[0] = f.Nodes[1]
	wantCheck(t, "first node that is no source", f, 3, 0, api.ErrArg)
}

// P6.1: as many elements as there may be, and as few; names of different lists, and those of elements that are used often.
func TestCheckCounts(t *testing.T) {
	f := api.FeFeeder{Nodes: []api.FeNode{source()}, Volts: encl(1, 1), Source: encl(1, 1), Limit: 1}
	wantCheck(t, "a source alone", f, 0, 0, api.OK)
	f.Nodes = append(f.Nodes, api.FeNode{Name: "a", Length: 1, Fuse: -1})
	wantCheck(t, "no cable", f, 3, 1, api.ErrNone)
	f.Cables = []api.FeCable{{Name: "source", Core: encl(1, 1), Earth: encl(1, 1), Rated: 1}}
	wantCheck(t, "no fuses, and the cable with the name of a node", f, 0, 0, api.OK)
	f.Nodes[1].Fuse = 0
	wantCheck(t, "no fuse", f, 3, 1, api.ErrNone)
	f.Fuses = []api.FeFuse{{Name: "source", Rated: 1, Points: []api.FePoint{point(1, 1, 1)}}}
	wantCheck(t, "all with one name", f, 0, 0, api.OK)
	f.Cables, f.Fuses, f.Nodes = more(f.Cables, 10), more(f.Fuses, 10), more(f.Nodes, 40)
	for i := range f.Cables {
		f.Cables[i].Name, f.Fuses[i].Name = fmt.Sprint("x", i), fmt.Sprint("x", i)
	}
	for i := range f.Nodes {
		f.Nodes[i].Name = fmt.Sprint("x", i)
	}
	for current := 2; current <= 8; current++ {
		f.Fuses[9].Points = append(f.Fuses[9].Points, point(current, 1, 1))
	}
	wantCheck(t, "all at the limits", f, 0, 0, api.OK)
	f.Nodes[39].Parent, f.Nodes[39].Cable, f.Nodes[39].Fuse, f.Nodes[39].Name = 38, 9, 9, "n0123456789-0123456789-x"
	wantCheck(t, "the last ones", f, 0, 0, api.OK)
}
