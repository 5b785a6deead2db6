package light_test

import (
	"math/rand"
	"slices"
	"strconv"
	"testing"

	"linkboy/api"
	"linkboy/light"
	"linkboy/road"
)

// between returns an integer from lo to hi.
func between(r *rand.Rand, lo, hi int) int { return lo + r.Intn(hi-lo+1) }

// edged returns an integer from lo to hi, often one of them.
func edged(r *rand.Rand, lo, hi int) int {
	switch r.Intn(8) {
	case 0:
		return lo
	case 1:
		return hi
	}
	return between(r, lo, hi)
}

// someTangents returns tangents around that of the direction straight down, often the greatest ones, too.
func someTangents(r *rand.Rand) []int {
	least := []int{100, api.MaxTan, api.MaxTan}[r.Intn(3)]
	list := []int{-between(r, least, api.MaxTan), between(r, least, api.MaxTan)}
	for range r.Intn(5) {
		list = append(list, between(r, -2000, 2000))
	}
	slices.Sort(list)
	return slices.Compact(list)
}

func someTable(r *rand.Rand, name string, most int) api.LmTable {
	t := api.LmTable{Name: name, Us: someTangents(r), Vs: someTangents(r), Side: edged(r, 0, most/10), Sky: edged(r, 0, most/10)}
	for range t.Us {
		var row []int
		for range t.Vs {
			row = append(row, edged(r, most/4, most))
		}
		t.Values = append(t.Values, row)
	}
	return t
}

func someEncl(r *rand.Rand, most int) api.Encl {
	lo := r.Intn(most + 1)
	return encl(lo, between(r, lo, most))
}

// someCatalog returns a catalogue with some lamps, and one table more than these need.
func someCatalog(r *rand.Rand) api.LmCatalog {
	var c api.LmCatalog
	for i := range between(r, 1, 3) {
		most := []int{5, 1000, 100000}[r.Intn(3)] // with the most lumens: as bright as lamps may be
		c.Tables = append(c.Tables, someTable(r, "t"+strconv.Itoa(i), most))
	}
	for i := range between(r, 1, 3) {
		power := between(r, 1, api.MaxPower)
		c.Lamps = append(c.Lamps, api.LmLamp{
			Name: "l" + strconv.Itoa(i), Table: r.Intn(len(c.Tables)), Kind: api.LmSodium, Lumens: edged(r, 1, api.MaxLumens), Power: power, Standing: r.Intn(power + 1),
			Tolerance: edged(r, 0, 1000), Ageing: someEncl(r, 8), Dirt: someEncl(r, 8), Life: 1, Dim: r.Intn(1001), Restrike: r.Intn(3601),
		})
	}
	c.Tables = append(c.Tables, someTable(r, "surface", api.MaxReflect))
	return c
}

func someUse(r *rand.Rand) api.LmUse {
	return api.LmUse{Hours: between(r, 0, 40000), Months: between(r, 0, 36), Level: edged(r, 0, 1000)}
}

// size tells how far apart the parts of a scene are, and how high.
type size struct{ place, height int }

var sizes = []size{{12000, 120}, {40000, 200}, {api.MaxRdPlace, 200}}

func (z size) coordinate(r *rand.Rand) int {
	if r.Intn(8) == 0 {
		return z.place * (2*r.Intn(2) - 1)
	}
	return between(r, -z.place, z.place)
}

func (z size) point(r *rand.Rand) [2]int { return [2]int{z.coordinate(r), z.coordinate(r)} }

// patch returns a patch; now and then a great one, or one without length or width.
func (z size) patch(r *rand.Rand) api.RdPatch {
	x0, y0 := z.coordinate(r), z.coordinate(r)
	wide := []int{0, 10, z.place / 10, z.place}[r.Intn(4)]
	return patch(x0, y0, min(x0+r.Intn(wide+1), z.place), min(y0+r.Intn(wide+1), z.place))
}

func direction(r *rand.Rand) (dx, dy int) {
	most := []int{1, 5, api.MaxRdHeading}[r.Intn(3)]
	for dx == 0 && dy == 0 {
		dx, dy = between(r, -most, most), between(r, -most, most)
	}
	return dx, dy
}

func (z size) column(r *rand.Rand, name string) api.RdColumn {
	c := api.RdColumn{Name: name, X: z.coordinate(r), Y: z.coordinate(r), Height: edged(r, 1, z.height)}
	if r.Intn(2) == 0 {
		c.Height = between(r, 40, 120)
	}
	c.DX, c.DY = direction(r)
	return c
}

func (z size) front(r *rand.Rand) api.RdFront {
	f := api.RdFront{A: z.point(r), B: z.point(r)}
	for f.A == f.B {
		f.B = z.point(r)
	}
	for range between(r, 1, 3) {
		from, low := r.Intn(api.All), r.Intn(z.height)
		f.Windows = append(f.Windows, api.RdWindow{From: from, To: between(r, from+1, api.All), Low: low, High: between(r, low+1, min(2*z.height, low+40))})
	}
	return f
}

func (z size) road(r *rand.Rand, name string) api.RdRoad {
	d := api.RdRoad{Name: name, Points: [][2]int{z.point(r)}, Width: between(r, 3000, 12000)}
	for len(d.Points) < 2+r.Intn(2) {
		if p := z.point(r); p != d.Points[len(d.Points)-1] {
			d.Points = append(d.Points, p)
		}
	}
	return d
}

// scene returns a scene with at least one of each but trees; about one column in six has no lamp.
func (z size) scene(r *rand.Rand) api.LtScene {
	s := api.LtScene{Catalog: someCatalog(r)}
	s.Surface = len(s.Catalog.Tables) - 1
	for i := range between(r, 1, 2) {
		s.Road.Roads = append(s.Road.Roads, z.road(r, "r"+strconv.Itoa(i)))
		s.Road.Fronts = append(s.Road.Fronts, z.front(r))
	}
	for range r.Intn(4) {
		low := r.Intn(z.height)
		s.Road.Trees = append(s.Road.Trees, api.RdTree{X: z.coordinate(r), Y: z.coordinate(r), R: between(r, 1, min(z.place/4, api.MaxRdCrown)), Low: low, High: between(r, low+1, z.height)})
	}
	for i := range between(r, 1, 6) {
		s.Road.Columns = append(s.Road.Columns, z.column(r, "c"+strconv.Itoa(i)))
		s.Lamps = append(s.Lamps, r.Intn(6*len(s.Catalog.Lamps))/5)
		s.Uses = append(s.Uses, someUse(r))
		if s.Lamps[i] >= len(s.Catalog.Lamps) {
			s.Lamps[i] = -1
		}
	}
	return s
}

// step returns a step for which a road has not too many patches.
func (z size) step(r *rand.Rand) int { return between(r, z.place/8, z.place/3) }

// class returns a class that asks for nothing.
func (z size) class(r *rand.Rand) api.LtClass {
	c := api.LtClass{Kind: between(r, api.LtLux, api.LtBright), Glare: api.MaxGlare, Step: z.step(r)}
	c.DX, c.DY = direction(r)
	return c
}

// someScenes does something with scenes of all sizes.
func someScenes(t *testing.T, seed int64, count int, do func(r *rand.Rand, z size, s api.LtScene)) {
	t.Helper()
	r := rand.New(rand.NewSource(seed))
	for i := range count {
		z := sizes[i%len(sizes)]
		s := z.scene(r)
		if part, at, e := light.Check(s); e != api.OK {
			t.Fatalf("%+v: Check = %d, %d, %d", s, part, at, e)
		}
		do(r, z, s)
	}
}

// pointIn returns a point of a patch, often one at its border.
func pointIn(r *rand.Rand, p api.RdPatch) (x, y int) {
	return edged(r, p.X0, p.X1), edged(r, p.Y0, p.Y1)
}

// partOf returns a part of a patch.
func partOf(r *rand.Rand, p api.RdPatch) api.RdPatch {
	a, b := pointIn(r, p)
	c, d := pointIn(r, p)
	return patch(min(a, c), min(b, d), max(a, c), max(b, d))
}

// pointOn returns a point of a road with coordinates of places, if one is found.
func pointOn(r *rand.Rand, s api.RdScene, at int) (x, y int, ok bool) {
	d := s.Roads[at]
	for range 20 {
		i := r.Intn(len(d.Points) - 1)
		a, b, share := d.Points[i], d.Points[i+1], r.Intn(1001)
		x = a[0] + (b[0]-a[0])*share/1000 + between(r, -d.Width/2, d.Width/2)
		y = a[1] + (b[1]-a[1])*share/1000 + between(r, -d.Width/2, d.Width/2)
		if is, e := road.On(s, at, x, y); is && e == api.OK {
			return x, y, true
		}
	}
	return 0, 0, false
}

// clone returns a scene that shares no memory with s.
func clone(s api.LtScene) api.LtScene {
	c := s
	c.Catalog = api.LmCatalog{Tables: slices.Clone(s.Catalog.Tables), Lamps: slices.Clone(s.Catalog.Lamps)}
	for i, t := range c.Catalog.Tables {
		c.Catalog.Tables[i].Us, c.Catalog.Tables[i].Vs, c.Catalog.Tables[i].Values = slices.Clone(t.Us), slices.Clone(t.Vs), slices.Clone(t.Values)
		for k, row := range t.Values {
			c.Catalog.Tables[i].Values[k] = slices.Clone(row)
		}
	}
	c.Road = api.RdScene{Roads: slices.Clone(s.Road.Roads), Trees: slices.Clone(s.Road.Trees), Fronts: slices.Clone(s.Road.Fronts), Columns: slices.Clone(s.Road.Columns)}
	for i := range c.Road.Roads {
		c.Road.Roads[i].Points = slices.Clone(c.Road.Roads[i].Points)
	}
	for i := range c.Road.Fronts {
		c.Road.Fronts[i].Windows = slices.Clone(c.Road.Fronts[i].Windows)
	}
	c.Lamps, c.Uses = slices.Clone(s.Lamps), slices.Clone(s.Uses)
	return c
}
