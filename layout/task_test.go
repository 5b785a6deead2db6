package layout_test

import (
	"fmt"
	"math/rand"
	"strconv"
	"testing"

	"linkboy/api"
	"linkboy/layout"
	"linkboy/light"
	"linkboy/road"
)

// example returns the task T of the chapter's examples.
func example() api.LoTask {
	return api.LoTask{
		Scene: api.LtScene{
			Catalog: catalog(),
			Surface: 1,
			Road:    api.RdScene{Roads: []api.RdRoad{{Name: "high", Points: [][2]int{{0, 0}, {10000, 0}, {10000, 10000}}, Width: 4000}}},
		},
		Sites:  []api.LoSite{{DY: 1}, {X: 10000, DY: 1}, {Right: true, X: 5000, DY: 1}},
		Poles:  []api.LoPole{{Height: 80, Price: 1000}, {Height: 60, Price: 800}},
		Lamps:  []api.LoLamp{{Price: 500}},
		Levels: []int{500, 1000},
		Steps:  1,
		Sky:    200,
		Goal:   api.LoCheap,
		Hours:  1000,
		PerKwh: 10,
	}
}

// catalog returns the catalogue of the scene L of chapter 4.
func catalog() api.LmCatalog {
	return api.LmCatalog{
		Tables: []api.LmTable{
			{Name: "wide", Us: []int{-1000, 0, 2000}, Vs: []int{-1000, 1000}, Values: [][]int{{100, 300}, {200, 600}, {0, 100}}, Side: 50, Sky: 5},
			{Name: "asphalt", Us: []int{-5000, 5000}, Vs: []int{-5000, 5000}, Values: [][]int{{700, 700}, {700, 700}}},
		},
		Lamps: []api.LmLamp{{
			Name: "head", Kind: api.LmLed, Lumens: 8000, Power: 60000, Standing: 500, Tolerance: 50,
			Ageing: api.Encl{Lo: 2, Hi: 4}, Dirt: api.Encl{Lo: 3, Hi: 5}, Life: 100000, Dim: 200,
		}},
	}
}

// flood returns a table of a lamp that lights a wide strip, everywhere at least a little.
func flood(name string) api.LmTable {
	return api.LmTable{
		Name: name, Us: []int{-4000, -1000, 0, 1000, 4000}, Vs: []int{-4000, 0, 2000, 5000}, Side: 20000, Sky: 5000,
		Values: [][]int{{60000, 300000, 200000, 40000}, {90000, 500000, 400000, 60000}, {120000, 450000, 420000, 70000}, {90000, 500000, 400000, 60000}, {60000, 300000, 200000, 40000}},
	}
}

// street returns a task with a straight street and a foot path, four sites on each side, a tree behind a house, this house with two
// windows and one with one, two lamps, of which the third one of the catalogue is too bright for any column, and needs
// that ask for nothing.
func street() api.LoTask {
	t := example()
	c := &t.Scene.Catalog
	c.Tables = append(c.Tables, flood("flood"))
	c.Lamps = append(c.Lamps, c.Lamps[0], c.Lamps[0])
	c.Lamps[1].Name, c.Lamps[1].Table, c.Lamps[1].Power, c.Lamps[1].Lumens = "flood", 2, 90000, 12000
	c.Lamps[2].Name, c.Lamps[2].Table, c.Lamps[2].Lumens = "sun", 2, api.MaxLumens
	t.Scene.Road = api.RdScene{
		Roads: []api.RdRoad{
			{Name: "high", Points: [][2]int{{0, 0}, {20000, 0}}, Width: 6000},
			{Name: "path", Kind: api.RdFoot, Points: [][2]int{{0, 5000}, {20000, 5000}}, Width: 2000},
		},
		Trees: []api.RdTree{{X: 3000, Y: 8600, R: 500, Low: 20, High: 40}},
		Fronts: []api.RdFront{
			{A: [2]int{20000, 8000}, B: [2]int{0, 8000}, Windows: []api.RdWindow{{From: 100, To: 300, Low: 10, High: 30}, {From: 600, To: 800, Low: 40, High: 60}}},
			{A: [2]int{0, -9000}, B: [2]int{20000, -9000}, Windows: []api.RdWindow{{From: 400, To: 600, Low: 20, High: 90}}},
		},
	}
	t.Sites = nil
	for x := range 4 {
		t.Sites = append(t.Sites, api.LoSite{X: 6000 * x, Y: 4000, DY: -1}, api.LoSite{Right: true, X: 6000 * x, Y: -4000, DX: 3, DY: 4})
	}
	t.Lamps = []api.LoLamp{{Lamp: 0, Price: 500}, {Lamp: 1, Price: 900, Hours: 4000, Months: 6}}
	t.Steps = 3
	t.Sky, t.Window = 1000000, 1000000
	t.Needs = []api.LoNeed{{Road: 0, Class: anything(api.LtBright)}, {Road: 1, Class: anything(api.LtLux)}}
	return t
}

// anything returns a class that asks for nothing.
func anything(kind int) api.LtClass {
	return api.LtClass{Kind: kind, Glare: api.MaxGlare, Step: 4000, DX: 1, DY: 0}
}

// choice returns a layout.
func choice(pole, lamp, level, step, sides int) api.LoLayout {
	return api.LoLayout{Pole: pole, Lamp: lamp, Level: level, Step: step, Sides: sides}
}

// changed returns a task after it was changed.
func changed(t api.LoTask, do func(t *api.LoTask)) api.LoTask {
	do(&t)
	return t
}

// between returns an integer from lo to hi.
func between(r *rand.Rand, lo, hi int) int { return lo + r.Intn(hi-lo+1) }

// edged returns an integer from lo to hi, often one of them.
func edged(r *rand.Rand, lo, hi int) int {
	if n := r.Intn(8); n < 2 {
		return []int{lo, hi}[n]
	}
	return between(r, lo, hi)
}

func someDirection(r *rand.Rand) (dx, dy int) {
	for dx == 0 && dy == 0 {
		dx, dy = between(r, -5, 5), between(r, -5, 5)
	}
	return dx, dy
}

// someTable returns a table that is more or less like flood.
func someTable(r *rand.Rand, name string) api.LmTable {
	t := flood(name)
	for _, row := range t.Values {
		for i := range row {
			row[i] = row[i]/2 + r.Intn(row[i])
		}
	}
	t.Side, t.Sky = r.Intn(40000), r.Intn(20000)
	return t
}

// someScene returns a scene without columns, with one or two roads.
func someScene(r *rand.Rand) api.LtScene {
	s := api.LtScene{Catalog: catalog(), Surface: 1}
	for i := range 3 {
		name := "t" + strconv.Itoa(i)
		s.Catalog.Tables = append(s.Catalog.Tables, someTable(r, name))
		own := s.Catalog.Lamps[0]
		own.Name, own.Table, own.Lumens, own.Power, own.Tolerance = name, 2+i, between(r, 3000, 20000), between(r, 500, 200000), between(r, 0, 100)
		s.Catalog.Lamps = append(s.Catalog.Lamps, own)
	}
	s.Catalog.Tables = append(s.Catalog.Tables, api.LmTable{Name: "laser", Us: []int{0, 1}, Vs: []int{0, 1}, Values: [][]int{{0, 0}, {0, api.MaxIntensity}}})
	laser := s.Catalog.Lamps[0]
	laser.Name, laser.Table, laser.Lumens = "laser", len(s.Catalog.Tables)-1, 10001
	s.Catalog.Lamps = append(s.Catalog.Lamps, laser)
	for i := range between(r, 1, 2) {
		p := [][2]int{{between(r, -12000, -6000), between(r, -3000, 3000)}, {between(r, 6000, 12000), between(r, -3000, 3000)}}
		s.Road.Roads = append(s.Road.Roads, api.RdRoad{Name: "r" + strconv.Itoa(i), Points: p, Width: between(r, 2000, 7000)})
	}
	if r.Intn(3) == 0 {
		s.Road.Trees = append(s.Road.Trees, api.RdTree{X: between(r, -9000, 9000), Y: between(r, -5000, 5000), R: between(r, 100, 1500), Low: between(r, 0, 30), High: between(r, 31, 90)})
	}
	for range r.Intn(3) {
		f := api.RdFront{A: [2]int{10000, between(r, 5000, 9000)}, B: [2]int{-10000, between(r, 5000, 9000)}}
		for range between(r, 1, 3) {
			from, low := r.Intn(900), r.Intn(60)
			f.Windows = append(f.Windows, api.RdWindow{From: from, To: between(r, from+1, 1000), Low: low, High: between(r, low+1, 90)})
		}
		s.Road.Fronts = append(s.Road.Fronts, f)
	}
	return s
}

// someTask returns a task, which can be met nearly always.
func someTask(r *rand.Rand) api.LoTask {
	t := api.LoTask{Scene: someScene(r), Goal: between(r, api.LoCheap, api.LoSaving), Hours: edged(r, 0, 5000), PerKwh: edged(r, 0, 40), Steps: between(r, 1, 3)}
	for range between(r, 2, 6) {
		s := api.LoSite{Right: r.Intn(2) == 0, X: between(r, -10000, 10000), Y: between(r, -5000, 5000)}
		s.DX, s.DY = someDirection(r)
		t.Sites = append(t.Sites, s)
	}
	for range between(r, 1, 2) {
		t.Poles = append(t.Poles, api.LoPole{Height: between(r, 30, 120), Price: 100 * r.Intn(5)})
		l := api.LoLamp{Lamp: between(r, 0, 3), Price: 100 * r.Intn(40), Hours: r.Intn(30000), Months: r.Intn(24)}
		if r.Intn(8) == 0 {
			l.Lamp = 4 // too bright
		}
		t.Lamps = append(t.Lamps, l)
	}
	t.Levels = []int{edged(r, 1, 300), between(r, 301, 600), edged(r, 601, 1000)}[r.Intn(3):]
	for range r.Intn(3) {
		c := anything(between(r, api.LtLux, api.LtBright))
		c.Step = between(r, 3000, 8000)
		c.DX, c.DY = someDirection(r)
		t.Needs = append(t.Needs, api.LoNeed{Road: r.Intn(len(t.Scene.Road.Roads)), Class: c})
	}
	setAims(r, &t)
	return t
}

// setAims sets what a task asks for, near what some layout of it has.
func setAims(r *rand.Rand, t *api.LoTask) {
	list := trueAll(*t)
	s := trueScene(*t, list[r.Intn(len(list))])
	if isWrong(s) {
		t.Sky, t.Window = r.Intn(1000), r.Intn(1000)
		return
	}
	t.Sky, _ = light.Sky(s)
	for f, front := range s.Road.Fronts {
		for w := range front.Windows {
			n, _ := light.Window(s, f, w)
			t.Window = max(t.Window, n)
		}
	}
	t.Sky, t.Window = t.Sky+r.Intn(4*t.Sky+2), t.Window+r.Intn(t.Window/2+2)
	for i := range t.Needs {
		c := &t.Needs[i].Class
		x, _ := light.Judge(s, t.Needs[i].Road, *c)
		least := func(n int) int { return edged(r, n/[]int{1, 2, 8, n + 1}[r.Intn(4)], n) }
		c.Average, c.Least, c.Uniform = least(x.Average.Lo), least(x.Least.Lo), least(x.Uniform)
		if c.Kind == api.LtBright {
			c.Glare = min(edged(r, x.Glare, 2*x.Glare), api.MaxGlare)
		}
	}
	if r.Intn(8) == 0 && len(t.Needs) > 0 { // too much
		t.Needs[0].Class.Uniform = api.All
	}
}

// someTasks does something with tasks.
func someTasks(t *testing.T, seed int64, count int, do func(r *rand.Rand, k api.LoTask)) {
	t.Helper()
	r := rand.New(rand.NewSource(seed))
	for range count {
		k := someTask(r)
		if part, at, e := layout.Check(k); e != api.OK {
			t.Fatalf("%+v: Check = %d, %d, %d", k, part, at, e)
		}
		do(r, k)
	}
}

// pointOn returns a point of a road with coordinates of places, if one is found.
func pointOn(r *rand.Rand, s api.RdScene, at int) (p api.RdPatch, ok bool) {
	d := s.Roads[at]
	for range 20 {
		a, b, share := d.Points[0], d.Points[1], r.Intn(1001)
		x := a[0] + (b[0]-a[0])*share/1000 + between(r, -d.Width/2, d.Width/2)
		y := a[1] + (b[1]-a[1])*share/1000 + between(r, -d.Width/2, d.Width/2)
		if is, e := road.On(s, at, x, y); is && e == api.OK {
			return api.RdPatch{X0: x, Y0: y, X1: x, Y1: y}, true
		}
	}
	return api.RdPatch{}, false
}

// text returns all that a value contains, to compare it later.
func text(x any) string { return fmt.Sprintf("%#v", x) }

// must returns x, and fails if there is an error.
func must[T any](t *testing.T) func(x T, e api.Errno) T {
	return func(x T, e api.Errno) T {
		t.Helper()
		if e != api.OK {
			t.Fatalf("error %d", e)
		}
		return x
	}
}

// The functions of the package, which must return no error.

func all(t *testing.T, k api.LoTask) []api.LoLayout {
	t.Helper()
	return must[[]api.LoLayout](t)(layout.All(k))
}

func build(t *testing.T, k api.LoTask, l api.LoLayout) api.LtScene {
	t.Helper()
	return must[api.LtScene](t)(layout.Build(k, l))
}

func value(t *testing.T, k api.LoTask, l api.LoLayout) int {
	t.Helper()
	return must[int](t)(layout.Value(k, l))
}

func why(t *testing.T, k api.LoTask, l api.LoLayout) api.LoReason {
	t.Helper()
	return must[api.LoReason](t)(layout.Why(k, l))
}

func holds(t *testing.T, k api.LoTask, l api.LoLayout, r api.LoReason) bool {
	t.Helper()
	return must[bool](t)(layout.Holds(k, l, r))
}

func best(t *testing.T, k api.LoTask) api.LoFound {
	t.Helper()
	return must[api.LoFound](t)(layout.Best(k))
}

func trade(t *testing.T, k api.LoTask) []api.LoLayout {
	t.Helper()
	return must[[]api.LoLayout](t)(layout.Trade(k))
}

func wantAccept(t *testing.T, what string, k api.LoTask, f api.LoFound, at int, e api.Errno) {
	t.Helper()
	if a, x := layout.Accept(k, f); a != at || x != e {
		t.Errorf("%s: Accept = %d, %d, want %d, %d", what, a, x, at, e)
	}
}
