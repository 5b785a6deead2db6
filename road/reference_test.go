package road_test

import (
	"math/big"
	"math/rand"
	"slices"
	"strconv"
	"testing"

	"linkboy/api"
	"linkboy/road"
)

// example returns the scene of the chapter's examples.
func example() api.RdScene {
	return api.RdScene{
		Roads: []api.RdRoad{
			{Name: "high", Kind: api.RdCarriage, Points: [][2]int{{0, 0}, {10000, 0}, {10000, 10000}}, Width: 4000},
			{Name: "zebra", Kind: api.RdCrossing, Points: [][2]int{{5000, -2000}, {5000, 2000}}, Width: 3000},
		},
		Trees:   []api.RdTree{{X: 4000, Y: 3000, R: 1000, Low: 20, High: 40}},
		Fronts:  []api.RdFront{{A: [2]int{10000, 5000}, B: [2]int{0, 5000}, Windows: []api.RdWindow{{From: 250, To: 750, Low: 10, High: 30}}}},
		Columns: []api.RdColumn{{Name: "c1", X: 4000, Y: 4000, Height: 60, DX: 0, DY: -1}},
	}
}

// oneRoad returns a scene with one carriageway.
func oneRoad(width int, points ...[2]int) api.RdScene {
	return api.RdScene{Roads: []api.RdRoad{{Name: "road", Points: points, Width: width}}}
}

func patch(x0, y0, x1, y1 int) api.RdPatch { return api.RdPatch{X0: x0, Y0: y0, X1: x1, Y1: y1} }

func spot(x, y int) api.RdPatch { return patch(x, y, x, y) }

func corners(p api.RdPatch) [][2]int {
	return [][2]int{{p.X0, p.Y0}, {p.X0, p.Y1}, {p.X1, p.Y0}, {p.X1, p.Y1}}
}

func isPatch(p api.RdPatch) bool {
	for _, n := range []int{p.X0, p.Y0, p.X1, p.Y1} {
		if n < -api.MaxRdPlace || n > api.MaxRdPlace {
			return false
		}
	}
	return p.X0 <= p.X1 && p.Y0 <= p.Y1
}

// The functions of the package, which must return no error.

func on(t *testing.T, s api.RdScene, at, x, y int) bool {
	t.Helper()
	is, e := road.On(s, at, x, y)
	if e != api.OK {
		t.Fatalf("On(%d, %d, %d): error %d", at, x, y, e)
	}
	return is
}

func meets(t *testing.T, s api.RdScene, at int, p api.RdPatch) int {
	t.Helper()
	n, e := road.Meets(s, at, p)
	if e != api.OK {
		t.Fatalf("Meets(%d, %v): error %d", at, p, e)
	}
	return n
}

func patches(t *testing.T, s api.RdScene, at, step int) []api.RdPatch {
	t.Helper()
	list, e := road.Patches(s, at, step)
	if e != api.OK {
		t.Fatalf("Patches(%d, %d): error %d", at, step, e)
	}
	return list
}

func shaded(t *testing.T, s api.RdScene, at, x, y int) int {
	t.Helper()
	tree, e := road.Shaded(s, at, x, y)
	if e != api.OK {
		t.Fatalf("Shaded(%d, %d, %d): error %d", at, x, y, e)
	}
	return tree
}

func shade(t *testing.T, s api.RdScene, at int, p api.RdPatch) int {
	t.Helper()
	n, e := road.Shade(s, at, p)
	if e != api.OK {
		t.Fatalf("Shade(%d, %v): error %d", at, p, e)
	}
	return n
}

func fraction(n, d int) *big.Rat { return big.NewRat(int64(n), int64(d)) }

func number(n int) *big.Rat { return fraction(n, 1) }

func plus(x, y *big.Rat) *big.Rat { return new(big.Rat).Add(x, y) }

func minus(x, y *big.Rat) *big.Rat { return new(big.Rat).Sub(x, y) }

func times(x, y *big.Rat) *big.Rat { return new(big.Rat).Mul(x, y) }

func over(x, y *big.Rat) *big.Rat { return new(big.Rat).Quo(x, y) }

func floor(x *big.Rat) int {
	return int(new(big.Int).Div(x.Num(), x.Denom()).Int64()) // of Euclid: downwards, as the denominator is above 0
}

func ceil(x *big.Rat) int { return -floor(new(big.Rat).Neg(x)) }

// line is the number p + q s for each s.
type line struct{ p, q *big.Rat }

func (l line) at(s *big.Rat) *big.Rat { return plus(l.p, times(l.q, s)) }

func (l line) less(n int) line { return line{minus(l.p, number(n)), l.q} }

// way returns the line that is a at 0 and b at 1.
func way(a, b int) line { return line{number(a), number(b - a)} }

// moving is a rectangle whose sides move evenly: its least and greatest x, and y.
type moving struct{ x0, x1, y0, y1 line }

// beyond returns how far 0 is from the numbers from l to h, as a line that is right for all s for which it is at s the same one.
func beyond(l, h line, s *big.Rat) line {
	if l.at(s).Sign() > 0 {
		return l
	}
	if h.at(s).Sign() < 0 {
		return h
	}
	return line{number(0), number(0)}
}

// leastSquare returns the least square of the distance of the origin to the rectangle, for s from a to b. Between any
// two neighbouring places at which a side passes the origin it is that of one quadratic function.
func (m moving) leastSquare(a, b *big.Rat) *big.Rat {
	stops := []*big.Rat{a, b}
	for _, l := range []line{m.x0, m.x1, m.y0, m.y1} {
		if l.q.Sign() != 0 {
			if s := over(l.p, new(big.Rat).Neg(l.q)); s.Cmp(a) > 0 && s.Cmp(b) < 0 {
				stops = append(stops, s)
			}
		}
	}
	slices.SortFunc(stops, (*big.Rat).Cmp)
	var least *big.Rat
	for i := range len(stops) - 1 {
		from, to := stops[i], stops[i+1]
		middle := over(plus(from, to), number(2))
		x, y := beyond(m.x0, m.x1, middle), beyond(m.y0, m.y1, middle)
		best := from
		if square := plus(times(x.q, x.q), times(y.q, y.q)); square.Sign() != 0 {
			best = over(plus(times(x.p, x.q), times(y.p, y.q)), new(big.Rat).Neg(square))
		}
		if best.Cmp(from) < 0 {
			best = from
		}
		if best.Cmp(to) > 0 {
			best = to
		}
		u, v := x.at(best), y.at(best)
		if d := plus(times(u, u), times(v, v)); least == nil || d.Cmp(least) < 0 {
			least = d
		}
	}
	return least
}

// toStrip returns how far a patch is from a strip, as a sign: below 0 if it goes inside, 0 if it touches it, above 0 if it is outside.
func toStrip(a, b [2]int, width int, p api.RdPatch) int {
	m := moving{way(p.X0-a[0], p.X0-b[0]), way(p.X1-a[0], p.X1-b[0]), way(p.Y0-a[1], p.Y0-b[1]), way(p.Y1-a[1], p.Y1-b[1])}
	return m.leastSquare(number(0), number(1)).Cmp(fraction(width*width, 4))
}

// toShadow returns likewise how far a patch is from the shadow of a tree.
func toShadow(t api.RdTree, c api.RdColumn, p api.RdPatch) int {
	from, to := fraction(t.Low, c.Height), fraction(min(t.High, c.Height), c.Height)
	if from.Cmp(to) > 0 {
		return 1
	}
	m := moving{way(p.X0, c.X).less(t.X), way(p.X1, c.X).less(t.X), way(p.Y0, c.Y).less(t.Y), way(p.Y1, c.Y).less(t.Y)}
	return m.leastSquare(from, to).Cmp(number(t.R * t.R))
}

// trueExtent returns how much of a patch is in sets, none, some or all of it in one, and whether it just touches them.
func trueExtent(sets []func(api.RdPatch) int, p api.RdPatch) (extent int, touches bool) {
	nearest := 1
	for _, distance := range sets {
		nearest = min(nearest, distance(p))
		isOutside := func(c [2]int) bool { return distance(spot(c[0], c[1])) > 0 }
		if !slices.ContainsFunc(corners(p), isOutside) {
			extent = 2
		}
	}
	if nearest <= 0 {
		extent = max(extent, 1)
	}
	return extent, nearest == 0
}

// tally counts patches by the size of the scene and by their extent, and those that just touch something.
type tally struct {
	extents [3][3]int
	touches int
}

func (c *tally) add(size, extent int, touches bool) {
	c.extents[size][extent]++
	if touches {
		c.touches++
	}
}

// wantEnough fails if the test had too few patches of some extent.
func (c *tally) wantEnough(t *testing.T) {
	t.Helper()
	for _, n := range c.extents {
		if slices.Min(n[:]) < 50 {
			t.Errorf("too few of some extent: %v", c.extents)
		}
	}
	if c.touches < 50 {
		t.Errorf("too few patches touch something: %d", c.touches)
	}
}

func strips(r api.RdRoad) []func(api.RdPatch) int {
	var list []func(api.RdPatch) int
	for i := range len(r.Points) - 1 {
		list = append(list, func(p api.RdPatch) int { return toStrip(r.Points[i], r.Points[i+1], r.Width, p) })
	}
	return list
}

func shadows(s api.RdScene, column int) []func(api.RdPatch) int {
	var list []func(api.RdPatch) int
	for _, t := range s.Trees {
		list = append(list, func(p api.RdPatch) int { return toShadow(t, s.Columns[column], p) })
	}
	return list
}

// size tells how great the numbers of a scene are, and how fine.
type size struct{ place, grain, width, crown, height int }

// Sizes of scenes: coarse ones, whose parts often touch each other, and great ones.
var (
	coarse = size{place: 1000, grain: 100, width: 600, crown: 500, height: 4}
	fine   = size{place: 300, grain: 1, width: 200, crown: 100, height: 30}
	great  = size{place: api.MaxRdPlace, grain: 1, width: api.MaxRdWidth, crown: api.MaxRdCrown, height: api.MaxRdHeight}
	sizes  = []size{coarse, fine, great}
)

// between returns an integer from lo to hi.
func between(r *rand.Rand, lo, hi int) int { return lo + r.Intn(hi-lo+1) }

// coordinate returns a coordinate of a place; now and then one as great as may be.
func (z size) coordinate(r *rand.Rand) int {
	if r.Intn(6) == 0 {
		return z.place * (2*r.Intn(2) - 1)
	}
	return z.grain * between(r, -z.place/z.grain, z.place/z.grain)
}

func (z size) point(r *rand.Rand) [2]int { return [2]int{z.coordinate(r), z.coordinate(r)} }

// patch returns a patch; now and then one without length, or width, or both.
func (z size) patch(r *rand.Rand) api.RdPatch {
	x0, x1, y0, y1 := z.coordinate(r), z.coordinate(r), z.coordinate(r), z.coordinate(r)
	if r.Intn(2) == 0 { // a small one
		x1, y1 = min(x0+z.grain*r.Intn(5), z.place), min(y0+z.grain*r.Intn(5), z.place)
	}
	if r.Intn(4) == 0 {
		x1 = x0
	}
	if r.Intn(4) == 0 {
		y1 = y0
	}
	return patch(min(x0, x1), min(y0, y1), max(x0, x1), max(y0, y1))
}

func (z size) road(r *rand.Rand, name string) api.RdRoad {
	d := api.RdRoad{Name: name, Kind: r.Intn(4), Points: [][2]int{z.point(r)}, Width: between(r, 100, z.width)}
	if z.grain > 1 {
		d.Width = z.grain * between(r, 2, z.width/z.grain)
	}
	count := between(r, 2, api.MaxRdPoints)
	if d.Kind == api.RdCrossing || r.Intn(2) == 0 {
		count = 2
	}
	for len(d.Points) < count {
		if p := z.point(r); p != d.Points[len(d.Points)-1] {
			d.Points = append(d.Points, p)
		}
	}
	return d
}

func (z size) tree(r *rand.Rand) api.RdTree {
	low := r.Intn(z.height + 1)
	return api.RdTree{X: z.coordinate(r), Y: z.coordinate(r), R: z.grain * between(r, 1, z.crown/z.grain), Low: low, High: low + between(r, 1, z.height)}
}

func (z size) front(r *rand.Rand) api.RdFront {
	f := api.RdFront{A: z.point(r), B: z.point(r)}
	for f.A == f.B {
		f.B = z.point(r)
	}
	for range r.Intn(api.MaxRdWindows + 1) {
		from, low := r.Intn(api.All), r.Intn(api.MaxRdTall)
		f.Windows = append(f.Windows, api.RdWindow{From: from, To: between(r, from+1, api.All), Low: low, High: between(r, low+1, api.MaxRdTall)})
	}
	return f
}

func (z size) column(r *rand.Rand, name string) api.RdColumn {
	c := api.RdColumn{Name: name, X: z.coordinate(r), Y: z.coordinate(r), Height: between(r, 1, z.height), DX: between(r, -1000, 1000), DY: between(r, -1000, 1000)}
	if c.DX == 0 && c.DY == 0 {
		c.DY = 1
	}
	return c
}

// scene returns a scene with at least one of each.
func (z size) scene(r *rand.Rand) api.RdScene {
	var s api.RdScene
	for i := range between(r, 1, 4) {
		s.Roads = append(s.Roads, z.road(r, "r"+strconv.Itoa(i)))
		s.Columns = append(s.Columns, z.column(r, "c"+strconv.Itoa(i)))
		s.Trees = append(s.Trees, z.tree(r))
		s.Fronts = append(s.Fronts, z.front(r))
	}
	return s
}
