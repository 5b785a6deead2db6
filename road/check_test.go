package road_test

import (
	"math"
	"math/rand"
	"strconv"
	"strings"
	"testing"

	"linkboy/api"
	"linkboy/road"
)

// two returns a scene with two of each.
func two() api.RdScene {
	s := example()
	s.Trees = append(s.Trees, api.RdTree{X: 1, Y: 2, R: 3, Low: 4, High: 5})
	s.Fronts = append(s.Fronts, api.RdFront{B: [2]int{0, 9}, Windows: []api.RdWindow{{From: 1, To: 2, Low: 3, High: 4}, {From: 1, To: 2, Low: 3, High: 4}}})
	s.Columns = append(s.Columns, api.RdColumn{Name: "c2", X: 5, Y: 6, Height: 7, DX: 8, DY: 9})
	return s
}

// most returns a scene with as many of all as there may be, in which all is as great as it may be.
func most() api.RdScene {
	var s api.RdScene
	far := api.MaxRdPlace
	for i := range api.MaxRdRoads {
		r := api.RdRoad{Name: strings.Repeat("r", 23) + strconv.Itoa(i), Kind: api.RdCycle, Width: api.MaxRdWidth}
		for k := range api.MaxRdPoints {
			r.Points = append(r.Points, [2]int{far, far * (2*(k%2) - 1)})
		}
		s.Roads = append(s.Roads, r)
	}
	for range api.MaxRdTrees {
		s.Trees = append(s.Trees, api.RdTree{X: -far, Y: far, R: api.MaxRdCrown, Low: api.MaxRdTall - 1, High: api.MaxRdTall})
	}
	for range api.MaxRdFronts {
		f := api.RdFront{A: [2]int{far, far}, B: [2]int{-far, -far}}
		for range api.MaxRdWindows {
			f.Windows = append(f.Windows, api.RdWindow{From: api.All - 1, To: api.All, Low: api.MaxRdTall - 1, High: api.MaxRdTall})
		}
		s.Fronts = append(s.Fronts, f)
	}
	for i := range api.MaxRdColumns {
		s.Columns = append(s.Columns, api.RdColumn{Name: strings.Repeat("c", 22) + strconv.Itoa(10+i), X: -far, Y: -far, Height: api.MaxRdHeight, DX: -api.MaxRdHeading, DY: api.MaxRdHeading})
	}
	return s
}

// least returns a scene in which all is as small as it may be.
func least() api.RdScene {
	return api.RdScene{
		Roads:   []api.RdRoad{{Name: "a", Kind: api.RdFoot, Points: [][2]int{{0, 0}, {0, 1}, {0, 0}}, Width: api.MinRdWidth}},
		Trees:   []api.RdTree{{R: 1, High: 1}},
		Fronts:  []api.RdFront{{B: [2]int{1, 0}}, {B: [2]int{0, 1}, Windows: []api.RdWindow{{To: 1, High: 1}}}},
		Columns: []api.RdColumn{{Name: "a", Height: 1, DX: 1}, {Name: "a-0", Height: 1, DY: -1}},
	}
}

// change is an error that is made in the second one of a part of the scene two.
type change struct {
	part int
	name string
	e    api.Errno
	do   func(*api.RdScene)
}

// changes are the errors of all parts, of each in the order in which they are named.
func changes() []change {
	return append(append(roadChanges(), treeChanges()...), append(frontChanges(), columnChanges()...)...)
}

func roadChanges() []change {
	with := func(name string, e api.Errno, do func(*api.RdRoad)) change {
		return change{1, name, e, func(s *api.RdScene) { do(&s.Roads[1]) }}
	}
	long := [][2]int{{0, 0}, {1, 0}, {2, 0}, {3, 0}, {4, 0}, {5, 0}, {6, 0}, {7, 0}, {8, 0}}
	return []change{
		with("no name", api.ErrForm, func(r *api.RdRoad) { r.Name = "" }),
		with("long name", api.ErrForm, func(r *api.RdRoad) { r.Name = strings.Repeat("a", 25) }),
		with("twice", api.ErrTwice, func(r *api.RdRoad) { r.Name = "high" }),
		with("kind below", api.ErrArg, func(r *api.RdRoad) { r.Kind = -1 }),
		with("kind above", api.ErrArg, func(r *api.RdRoad) { r.Kind = 4 }),
		with("no points", api.ErrNone, func(r *api.RdRoad) { r.Points = nil }),
		with("one point", api.ErrNone, func(r *api.RdRoad) { r.Points = [][2]int{{0, 0}} }),
		with("many points", api.ErrLong, func(r *api.RdRoad) { r.Points = long }),
		with("x below", api.ErrRange, func(r *api.RdRoad) { r.Points = [][2]int{{0, 0}, {-api.MaxRdPlace - 1, 0}} }),
		with("x above", api.ErrRange, func(r *api.RdRoad) { r.Points = [][2]int{{math.MaxInt, 0}, {0, 0}} }),
		with("y below", api.ErrRange, func(r *api.RdRoad) { r.Points = [][2]int{{0, math.MinInt}, {0, 0}} }),
		with("y above", api.ErrRange, func(r *api.RdRoad) { r.Points = [][2]int{{0, 0}, {0, api.MaxRdPlace + 1}} }),
		with("width below", api.ErrRange, func(r *api.RdRoad) { r.Width = api.MinRdWidth - 1 }),
		with("width above", api.ErrRange, func(r *api.RdRoad) { r.Width = api.MaxRdWidth + 1 }),
		with("equal points", api.ErrArg, func(r *api.RdRoad) { r.Points = [][2]int{{5, 5}, {5, 5}} }),
		with("equal last points", api.ErrArg, func(r *api.RdRoad) { r.Kind, r.Points = api.RdFoot, [][2]int{{5, 5}, {5, 6}, {5, 6}} }),
		with("long crossing", api.ErrArg, func(r *api.RdRoad) { r.Kind, r.Points = api.RdCrossing, [][2]int{{5, 5}, {5, 6}, {5, 7}} }),
	}
}

func treeChanges() []change {
	with := func(name string, do func(*api.RdTree)) change {
		return change{2, name, api.ErrRange, func(s *api.RdScene) { do(&s.Trees[1]) }}
	}
	return []change{
		with("x below", func(t *api.RdTree) { t.X = -api.MaxRdPlace - 1 }),
		with("x above", func(t *api.RdTree) { t.X = api.MaxRdPlace + 1 }),
		with("y below", func(t *api.RdTree) { t.Y = math.MinInt }),
		with("y above", func(t *api.RdTree) { t.Y = api.MaxRdPlace + 1 }),
		with("radius below", func(t *api.RdTree) { t.R = 0 }),
		with("radius above", func(t *api.RdTree) { t.R = api.MaxRdCrown + 1 }),
		with("low below", func(t *api.RdTree) { t.Low = -1 }),
		with("low not below high", func(t *api.RdTree) { t.Low = t.High }),
		with("low above high", func(t *api.RdTree) { t.Low, t.High = math.MaxInt, math.MinInt }),
		with("high above", func(t *api.RdTree) { t.High = api.MaxRdTall + 1 }),
	}
}

func frontChanges() []change {
	with := func(name string, e api.Errno, do func(*api.RdFront)) change {
		return change{3, name, e, func(s *api.RdScene) { do(&s.Fronts[1]) }}
	}
	window := func(name string, do func(*api.RdWindow)) change {
		return with(name, api.ErrRange, func(f *api.RdFront) { do(&f.Windows[1]) })
	}
	return []change{
		with("x below", api.ErrRange, func(f *api.RdFront) { f.A[0] = -api.MaxRdPlace - 1 }),
		with("x above", api.ErrRange, func(f *api.RdFront) { f.B[0] = api.MaxRdPlace + 1 }),
		with("y below", api.ErrRange, func(f *api.RdFront) { f.A[1] = math.MinInt }),
		with("y above", api.ErrRange, func(f *api.RdFront) { f.B[1] = math.MaxInt }),
		with("equal", api.ErrArg, func(f *api.RdFront) { f.A = f.B }),
		with("many windows", api.ErrLong, func(f *api.RdFront) { f.Windows = make([]api.RdWindow, 7) }),
		window("from below", func(w *api.RdWindow) { w.From = -1 }),
		window("from not below to", func(w *api.RdWindow) { w.From = w.To }),
		window("to above", func(w *api.RdWindow) { w.To = api.All + 1 }),
		window("low below", func(w *api.RdWindow) { w.Low = -1 }),
		window("low not below high", func(w *api.RdWindow) { w.Low = w.High }),
		window("high above", func(w *api.RdWindow) { w.High = api.MaxRdTall + 1 }),
	}
}

func columnChanges() []change {
	with := func(name string, e api.Errno, do func(*api.RdColumn)) change {
		return change{4, name, e, func(s *api.RdScene) { do(&s.Columns[1]) }}
	}
	return []change{
		with("name", api.ErrForm, func(c *api.RdColumn) { c.Name = "C2" }),
		with("twice", api.ErrTwice, func(c *api.RdColumn) { c.Name = "c1" }),
		with("x below", api.ErrRange, func(c *api.RdColumn) { c.X = -api.MaxRdPlace - 1 }),
		with("x above", api.ErrRange, func(c *api.RdColumn) { c.X = math.MaxInt }),
		with("y below", api.ErrRange, func(c *api.RdColumn) { c.Y = math.MinInt }),
		with("y above", api.ErrRange, func(c *api.RdColumn) { c.Y = api.MaxRdPlace + 1 }),
		with("height below", api.ErrRange, func(c *api.RdColumn) { c.Height = 0 }),
		with("height above", api.ErrRange, func(c *api.RdColumn) { c.Height = api.MaxRdHeight + 1 }),
		with("dx below", api.ErrRange, func(c *api.RdColumn) { c.DX = -api.MaxRdHeading - 1 }),
		with("dx above", api.ErrRange, func(c *api.RdColumn) { c.DX = api.MaxRdHeading + 1 }),
		with("dy below", api.ErrRange, func(c *api.RdColumn) { c.DY = -api.MaxRdHeading - 1 }),
		with("dy above", api.ErrRange, func(c *api.RdColumn) { c.DY = math.MaxInt }),
		with("no heading", api.ErrArg, func(c *api.RdColumn) { c.DX, c.DY = 0, 0 }),
	}
}

func wantCheck(t *testing.T, what string, s api.RdScene, part, at int, e api.Errno) {
	t.Helper()
	if p, a, f := road.Check(s); p != part || a != at || f != e {
		t.Errorf("%s: Check = %d, %d, %d, want %d, %d, %d", what, p, a, f, part, at, e)
	}
}

// P3.1
func TestCheckOK(t *testing.T) {
	r := rand.New(rand.NewSource(1))
	empty := api.RdScene{Roads: []api.RdRoad{}, Trees: []api.RdTree{}, Fronts: []api.RdFront{}, Columns: []api.RdColumn{}}
	for _, s := range []api.RdScene{{}, empty, example(), two(), most(), least()} {
		wantCheck(t, "right", s, 0, 0, api.OK)
	}
	for i := range 300 {
		wantCheck(t, "right", sizes[i%3].scene(r), 0, 0, api.OK)
	}
}

// P3.1: each error alone, in the second element and in the first one.
func TestCheckErrors(t *testing.T) {
	for _, c := range changes() {
		s := two()
		c.do(&s)
		wantCheck(t, c.name, s, c.part, 1, c.e)
		if c.e == api.ErrTwice {
			continue
		}
		s.Roads[0], s.Roads[1] = s.Roads[1], s.Roads[0]
		s.Trees[0], s.Trees[1] = s.Trees[1], s.Trees[0]
		s.Fronts[0], s.Fronts[1] = s.Fronts[1], s.Fronts[0]
		s.Columns[0], s.Columns[1] = s.Columns[1], s.Columns[0]
		wantCheck(t, c.name, s, c.part, 0, c.e)
	}
}

// P3.1, R1: of two errors of an element, or of two parts, the one that is named first. It comes into the scene last, so
// that the other one does not undo it.
func TestCheckOrderOfErrors(t *testing.T) {
	all := changes()
	for i, c := range all {
		for _, d := range all[i+1:] {
			s := two()
			d.do(&s)
			c.do(&s)
			wantCheck(t, c.name+", "+d.name, s, c.part, 1, c.e)
		}
	}
}

// P3.1, R1: the first element with an error, whatever is wrong with those behind it.
func TestCheckFirstElement(t *testing.T) {
	s := two()
	s.Roads[0].Points[1], s.Roads[1].Name = s.Roads[0].Points[0], "?"
	wantCheck(t, "roads", s, 1, 0, api.ErrArg)
	s = two()
	s.Fronts[0].Windows[0].Low, s.Fronts[1].A[0] = -1, math.MaxInt
	wantCheck(t, "fronts", s, 3, 0, api.ErrRange)
	s = two()
	s.Fronts[0].Windows, s.Fronts[1].A[0] = make([]api.RdWindow, 7), math.MaxInt
	wantCheck(t, "fronts", s, 3, 0, api.ErrLong)
	s = two()
	s.Columns[0].DY, s.Columns[1].Name = 0, "?"
	wantCheck(t, "columns", s, 4, 0, api.ErrArg)
	s = two()
	s.Columns[1].Name = "high"
	wantCheck(t, "a column with the name of a road", s, 0, 0, api.OK)
	s.Roads[1].Points = append(s.Roads[1].Points, [2]int{5000, 3000})
	wantCheck(t, "a crossing of two pieces", s, 1, 1, api.ErrArg)
	s.Roads[1].Kind = api.RdFoot
	wantCheck(t, "a foot path of two pieces", s, 0, 0, api.OK)
}

// P3.1: more than the limits, before all else.
func TestCheckTooMany(t *testing.T) {
	for i, add := range []func(*api.RdScene){
		func(s *api.RdScene) { s.Roads = append(s.Roads, api.RdRoad{Name: "r"}) },
		func(s *api.RdScene) { s.Trees = append(s.Trees, api.RdTree{}) },
		func(s *api.RdScene) { s.Fronts = append(s.Fronts, api.RdFront{}) },
		func(s *api.RdScene) { s.Columns = append(s.Columns, api.RdColumn{Name: "c"}) },
	} {
		s := most()
		s.Roads[0].Name = "?"
		wantCheck(t, "most but a name", s, 1, 0, api.ErrForm)
		add(&s)
		wantCheck(t, "too many of part "+strconv.Itoa(i+1), s, 0, 0, api.ErrLong)
	}
	wantCheck(t, "far too many", api.RdScene{Columns: make([]api.RdColumn, 100000)}, 0, 0, api.ErrLong)
}

// P3.1: names.
func TestNames(t *testing.T) {
	for name, want := range map[string]bool{
		"a": true, "z": true, "road": true, "a-": true, "a--b": true, "a0": true, "z9-z": true,
		strings.Repeat("a", 24): true, strings.Repeat("a", 25): false, strings.Repeat("a", 1000000): false,
		"": false, "0": false, "-": false, "-a": false, "9a": false, "A": false, "aB": false, "a b": false, "a_b": false, "a.b": false,
		"a ": false, " a": false, "a\n": false, "a\x00": false, "é": false, "aé": false, "a`": false, "a{": false, "`": false, "{": false,
		"a/": false, "a:": false, "a,": false, "\xff": false,
	} {
		part, at, e := 0, 0, api.OK
		if !want {
			part, at, e = 1, 1, api.ErrForm
		}
		s := two()
		s.Roads[1].Name = name
		wantCheck(t, "a road "+strconv.Quote(name), s, part, at, e)
		s = two()
		s.Columns[1].Name = name
		wantCheck(t, "a column "+strconv.Quote(name), s, 4*part, at, e)
	}
}
