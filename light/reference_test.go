package light_test

import (
	"math/big"
	"slices"
	"strconv"
	"testing"

	"linkboy/api"
	"linkboy/lamp"
	"linkboy/light"
	"linkboy/road"
)

// example returns the scene L of the chapter's examples.
func example() api.LtScene {
	return api.LtScene{
		Catalog: api.LmCatalog{
			Tables: []api.LmTable{
				{Name: "wide", Us: []int{-1000, 0, 2000}, Vs: []int{-1000, 1000}, Values: [][]int{{100, 300}, {200, 600}, {0, 100}}, Side: 50, Sky: 5},
				{Name: "asphalt", Us: []int{-5000, 5000}, Vs: []int{-5000, 5000}, Values: [][]int{{700, 700}, {700, 700}}},
			},
			Lamps: []api.LmLamp{{
				Name: "head", Table: 0, Kind: api.LmLed, Lumens: 8000, Power: 60000, Standing: 500, Tolerance: 50,
				Ageing: encl(2, 4), Dirt: encl(3, 5), Life: 100000, Dim: 200,
			}},
		},
		Surface: 1,
		Road: api.RdScene{
			Roads:   []api.RdRoad{{Name: "high", Kind: api.RdCarriage, Points: [][2]int{{0, 0}, {10000, 0}, {10000, 10000}}, Width: 4000}},
			Columns: []api.RdColumn{{Name: "c1", X: 0, Y: 0, Height: 80, DX: 0, DY: 1}},
		},
		Lamps: []int{0},
		Uses:  []api.LmUse{{Level: 1000}},
	}
}

// street returns the scene of the examples with another column, a tree and a front with a window.
func street() api.LtScene {
	s := example()
	s.Road.Trees = []api.RdTree{{X: 4000, Y: 3000, R: 1000, Low: 20, High: 40}}
	s.Road.Fronts = []api.RdFront{{A: [2]int{10000, 5000}, B: [2]int{0, 5000}, Windows: []api.RdWindow{{From: 250, To: 750, Low: 10, High: 30}}}}
	s.Road.Columns = append(s.Road.Columns, api.RdColumn{Name: "c2", X: 4000, Y: 4000, Height: 60, DX: 3, DY: -4})
	s.Lamps = append(s.Lamps, 0)
	s.Uses = append(s.Uses, api.LmUse{Hours: 10000, Months: 6, Level: 500})
	return s
}

func encl(lo, hi int) api.Encl { return api.Encl{Lo: lo, Hi: hi} }

func patch(x0, y0, x1, y1 int) api.RdPatch { return api.RdPatch{X0: x0, Y0: y0, X1: x1, Y1: y1} }

func spot(x, y int) api.RdPatch { return patch(x, y, x, y) }

func rect(x0, x1, y0, y1 int) api.LmRect { return api.LmRect{X0: x0, X1: x1, Y0: y0, Y1: y1} }

func plus(x, y api.Encl) api.Encl { return encl(x.Lo+y.Lo, x.Hi+y.Hi) }

// must returns x, and fails if there is an error.
func must[T any](t *testing.T) func(x T, e api.Errno) T {
	return func(x T, e api.Errno) T {
		t.Helper()
		if e != api.OK {
			t.Fatalf("error %d", e)
		}
		return x
	}
}

// The functions of the package, which must return no error.

func lux(t *testing.T, s api.LtScene, p api.RdPatch) api.Encl {
	t.Helper()
	return must[api.Encl](t)(light.Lux(s, p))
}

func bright(t *testing.T, s api.LtScene, p api.RdPatch, dx, dy int) api.Encl {
	t.Helper()
	return must[api.Encl](t)(light.Bright(s, p, dx, dy))
}

func veil(t *testing.T, s api.LtScene, v api.LtView) api.Encl {
	t.Helper()
	return must[api.Encl](t)(light.Veil(s, v))
}

func window(t *testing.T, s api.LtScene, front, at int) int {
	t.Helper()
	return must[int](t)(light.Window(s, front, at))
}

// fraction returns a product of numbers, divided by n.
func fraction(n int, factors ...int) *big.Rat {
	x := big.NewRat(1, int64(n))
	for _, f := range factors {
		x.Mul(x, big.NewRat(int64(f), 1))
	}
	return x
}

func floor(x *big.Rat) int {
	return int(new(big.Int).Div(x.Num(), x.Denom()).Int64()) // of Euclid: downwards, as the denominator is above 0
}

func ceil(x *big.Rat) int { return -floor(new(big.Rat).Neg(x)) }

// down and up return a product of numbers, divided by n, rounded.

func down(n int, factors ...int) int { return floor(fraction(n, factors...)) }

func up(n int, factors ...int) int { return ceil(fraction(n, factors...)) }

// root returns the square root of n, rounded down and up.
func root(n int) (low, high int) {
	low = int(new(big.Int).Sqrt(big.NewInt(int64(n))).Int64())
	if low*low == n {
		return low, low
	}
	return low, low + 1
}

func cornersOf(p api.RdPatch) [][2]int {
	return [][2]int{{p.X0, p.Y0}, {p.X0, p.Y1}, {p.X1, p.Y0}, {p.X1, p.Y1}}
}

// trueFrame returns the rectangle of offsets seen in a direction, as the chapter says.
func trueFrame(offsets [][2]int, dx, dy int) api.LmRect {
	l, L := root(1000000 * (dx*dx + dy*dy))
	var across, along []int
	for _, o := range offsets {
		across = append(across, o[0]*dy-o[1]*dx)
		along = append(along, o[0]*dx+o[1]*dy)
	}
	ends := func(list []int) (int, int) {
		m, M := slices.Min(list), slices.Max(list)
		x0, x1 := down(L, 1000, m), up(l, 1000, M)
		if m < 0 {
			x0 = down(l, 1000, m)
		}
		if M < 0 {
			x1 = up(L, 1000, M)
		}
		return max(-200000, min(200000, x0)), max(-200000, min(200000, x1))
	}
	x0, x1 := ends(across)
	y0, y1 := ends(along)
	return rect(x0, x1, y0, y1)
}

// frameFrom returns what the lamp of a column sees of a patch.
func frameFrom(c api.RdColumn, p api.RdPatch) api.LmRect {
	var offsets [][2]int
	for _, corner := range cornersOf(p) {
		offsets = append(offsets, [2]int{corner[0] - c.X, corner[1] - c.Y})
	}
	return trueFrame(offsets, c.DX, c.DY)
}

// towards returns the intensity of the lamp of a column.
func towards(s api.LtScene, at int, r api.LmRect, h int) api.Encl {
	i, e := lamp.Towards(s.Catalog, s.Lamps[at], s.Uses[at], r, h)
	if e != api.OK {
		panic("Towards: " + strconv.Itoa(int(e)))
	}
	return i
}

// nearest returns the number of a range that is nearest to n, and the one that is farthest.
func nearest(n, from, to int) (close, far int) {
	close, far = max(from, min(n, to)), from
	if n-from < to-n {
		far = to
	}
	return close, far
}

// squaresTo returns the least and the greatest square of the distance of a place to a point of a patch.
func squaresTo(x, y int, p api.RdPatch) (least, most int) {
	a, b := nearest(x, p.X0, p.X1)
	c, d := nearest(y, p.Y0, p.Y1)
	return (a-x)*(a-x) + (c-y)*(c-y), (b-x)*(b-x) + (d-y)*(d-y)
}

// added returns what the lamp of a column adds on a patch, as the chapter says: its intensity and height go to made.
func added(s api.LtScene, at int, p api.RdPatch, made func(c api.RdColumn, i api.Encl, h int) api.Encl) api.Encl {
	shade, _ := road.Shade(s.Road, at, p)
	if s.Lamps[at] == -1 || shade == api.RdDark {
		return encl(0, 0)
	}
	c := s.Road.Columns[at]
	h := 100 * c.Height
	x := made(c, towards(s, at, frameFrom(c, p), h), h)
	if shade == api.RdPart {
		x.Lo = 0
	}
	return x
}

// all returns the sum of what all columns add.
func all(s api.LtScene, add func(at int) api.Encl) api.Encl {
	sum := encl(0, 0)
	for at := range s.Road.Columns {
		sum = plus(sum, add(at))
	}
	return sum
}

// trueLux returns the light on a patch, as the chapter says.
func trueLux(s api.LtScene, p api.RdPatch) api.Encl {
	return all(s, func(at int) api.Encl {
		return added(s, at, p, func(c api.RdColumn, i api.Encl, h int) api.Encl {
			q, Q := squaresTo(c.X, c.Y, p)
			q, Q = q+h*h, Q+h*h
			d, _ := root(q)
			_, D := root(Q)
			return encl(down(D, 1000, down(Q, 1000, i.Lo, h)), up(d, 1000, up(q, 1000, i.Hi, h)))
		})
	})
}

// trueBright returns the luminance of a patch, as the chapter says.
func trueBright(s api.LtScene, p api.RdPatch, dx, dy int) api.Encl {
	return all(s, func(at int) api.Encl {
		return added(s, at, p, func(c api.RdColumn, i api.Encl, h int) api.Encl {
			var offsets [][2]int
			for _, corner := range cornersOf(p) {
				offsets = append(offsets, [2]int{c.X - corner[0], c.Y - corner[1]})
			}
			r, _ := lamp.Over(s.Catalog, s.Surface, trueFrame(offsets, dx, dy), h)
			return encl(100*down(h*h, 1000, i.Lo, r.Lo), 100*up(h*h, 1000, i.Hi, r.Hi))
		})
	})
}

// trueVeil returns the veil at a view, as the chapter says.
func trueVeil(s api.LtScene, v api.LtView) api.Encl {
	return all(s, func(at int) api.Encl {
		c := s.Road.Columns[at]
		x, y, z := c.X-v.X, c.Y-v.Y, 100*c.Height-1500
		A, B := x*v.DX+y*v.DY, x*v.DY-y*v.DX
		N := B*B + z*z*(v.DX*v.DX+v.DY*v.DY)
		if s.Lamps[at] == -1 || z <= 0 || A <= 0 || N > A*A {
			return encl(0, 0)
		}
		low, high := root(N)
		t, T := max(26, down(A, 1000, low)), max(26, up(A, 1000, high))
		i, q := towards(s, at, frameFrom(c, spot(v.X, v.Y)), z), x*x+y*y+z*z
		lo, hi := down(1000, 707, down(q, 1000000, i.Lo)), up(q, 1000000, i.Hi)
		f := up(1000000, 1000000+T*T, 1000000+T*T)
		return encl(down(3283, 10000, down(T*T, 1000000, lo)), up(3282, 10000, up(t*t, hi, f)))
	})
}

// trueJudge returns the light of a road, as the chapter says.
func trueJudge(s api.LtScene, at int, c api.LtClass) api.LtResult {
	patches, _ := road.Patches(s.Road, at, c.Step)
	var values []api.Encl
	worst, count, greatest := 0, 0, 0
	total, least := encl(0, 0), api.Encl{}
	for _, p := range patches {
		p = patch(max(p.X0, -100000), max(p.Y0, -100000), min(p.X1, 100000), min(p.Y1, 100000))
		if p.X0 > p.X1 || p.Y0 > p.Y1 {
			continue
		}
		x := trueLux(s, p)
		if c.Kind == api.LtBright {
			x = trueBright(s, p, c.DX, c.DY)
		}
		values = append(values, x)
		if len(values) == 1 {
			least = x
		}
		least = encl(min(least.Lo, x.Lo), min(least.Hi, x.Hi))
		total = plus(total, x)
		count++
		v := api.LtView{X: down(2, p.X0+p.X1), Y: down(2, p.Y0+p.Y1), DX: c.DX, DY: c.DY}
		greatest = max(greatest, trueVeil(s, v).Hi)
	}
	worst = slices.IndexFunc(values, func(x api.Encl) bool { return x.Lo == least.Lo })
	r := api.LtResult{Average: encl(down(count, total.Lo), up(count, total.Hi)), Least: least, Patches: count, Worst: worst}
	if r.Average.Hi > 0 {
		r.Uniform = down(r.Average.Hi, 1000, least.Lo)
	}
	if c.Kind == api.LtBright {
		r.Glare = 1000000
		if r.Average.Lo > 0 {
			r.Glare = min(1000000, up(r.Average.Lo, 1000, greatest))
		}
	}
	return r
}

// trueWindow returns how much light a window gets at most, as the chapter says.
func trueWindow(s api.LtScene, front, at int) int {
	box, _ := road.Window(s.Road, front, at)
	p := patch(box.X0, box.Y0, box.X1, box.Y1)
	return all(s, func(at int) api.Encl {
		faces, _ := road.Faces(s.Road, at, front)
		if s.Lamps[at] == -1 || !faces {
			return encl(0, 0)
		}
		c := s.Road.Columns[at]
		b, a := 100*c.Height-100*box.Low, 100*c.Height-100*box.High
		k, _ := squaresTo(c.X, c.Y, p)
		if a > 0 || b < 0 {
			k += min(a*a, b*b)
		}
		return encl(0, up(max(k, 1), 1000000, trueIntensity(s, at, p, a, b)))
	}).Hi
}

// trueIntensity returns the greatest intensity of the lamp of a column towards a window at the depths a to b.
func trueIntensity(s api.LtScene, at int, p api.RdPatch, a, b int) int {
	table := s.Catalog.Tables[s.Catalog.Lamps[s.Lamps[at]].Table]
	flux, _ := lamp.Flux(s.Catalog, s.Lamps[at], s.Uses[at])
	if b <= 0 {
		return up(1000, table.Sky, flux.Hi)
	}
	if a <= 0 {
		most := max(table.Side, table.Sky)
		for _, row := range table.Values {
			most = max(most, slices.Max(row))
		}
		return up(1000, most, flux.Hi)
	}
	r := frameFrom(s.Road.Columns[at], p)
	if r.X0 > 0 {
		r.X0 = down(b, r.X0, a)
	}
	if r.X1 < 0 {
		r.X1 = up(b, r.X1, a)
	}
	if r.Y0 > 0 {
		r.Y0 = down(b, r.Y0, a)
	}
	if r.Y1 < 0 {
		r.Y1 = up(b, r.Y1, a)
	}
	return towards(s, at, r, a).Hi
}
