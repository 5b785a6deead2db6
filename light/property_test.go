package light_test

import (
	"math/big"
	"math/rand"
	"testing"

	"linkboy/api"
	"linkboy/lamp"
	"linkboy/light"
	"linkboy/road"
)

// meet reports whether two enclosures have a number in common.
func meet(x, y api.Encl) bool { return x.Lo <= y.Hi && y.Lo <= x.Hi }

// isLess reports whether no end of x is above that of y.
func isLess(x, y api.Encl) bool { return x.Lo <= y.Lo && x.Hi <= y.Hi }

// P4.7: the light of points, and of parts, and that of the whole patch have a number in common.
func TestPointsAndPatches(t *testing.T) {
	someScenes(t, 11, 1500, func(r *rand.Rand, z size, s api.LtScene) {
		p := z.patch(r)
		dx, dy := direction(r)
		x, b := lux(t, s, p), bright(t, s, p, dx, dy)
		for i := range 8 {
			part := partOf(r, p)
			if i%2 == 0 {
				part = spot(pointIn(r, p))
			}
			if y := lux(t, s, part); !meet(x, y) || x.Lo > x.Hi {
				t.Fatalf("%+v: Lux(%v) = %v, but of %v %v", s, p, x, part, y)
			}
			if c := bright(t, s, part, dx, dy); !meet(b, c) || b.Lo > b.Hi {
				t.Fatalf("%+v: Bright(%v) = %v, but of %v %v", s, p, b, part, c)
			}
		}
	})
}

// trueLight returns the light that a lamp of 1000 lumens with an even intensity n makes on a point, in millilux.
func trueLight(c api.RdColumn, n, x, y int) float64 {
	f := func(k int) float64 { return float64(k) / 1000 }
	h := f(100 * c.Height)
	square := f(c.X-x)*f(c.X-x) + f(c.Y-y)*f(c.Y-y) + h*h
	root, _ := new(big.Float).Sqrt(big.NewFloat(square)).Float64()
	return float64(n) * h / (square * root)
}

// P4.7, P2: the light that there is, from a lamp that is the same in all directions, is in the enclosure.
func TestLightIsEnclosed(t *testing.T) {
	s := even()
	s.Catalog.Lamps[0].Lumens = 1000
	s.Catalog.Tables[0].Values = [][]int{{99999, 99999}, {99999, 99999}, {99999, 99999}}
	r := rand.New(rand.NewSource(12))
	z := size{20000, 200}
	for range 3000 {
		c := z.column(r, "c")
		c.Height = between(r, 81, 200) // the table has all directions to a place that is not too far then
		s.Road.Columns[0] = c
		p := z.patch(r)
		p.X0, p.X1, p.Y0, p.Y1 = (p.X0+c.X)/2, (p.X1+c.X)/2, (p.Y0+c.Y)/2, (p.Y1+c.Y)/2
		px, py := pointIn(r, p)
		x, n := lux(t, s, p), trueLight(c, 99999, px, py)
		if n < float64(x.Lo)-1e-6 || n > float64(x.Hi)+1e-6 {
			t.Fatalf("%+v: Lux(%v) = %v, but at %d, %d it is %v", c, p, x, px, py, n)
		}
		if p == spot(px, py) && x.Hi > x.Lo+2+x.Lo/1000 {
			t.Fatalf("%+v: Lux(%v) = %v", c, p, x)
		}
	}
}

// P4.8, P3
func TestAcceptedRoadsAreLit(t *testing.T) {
	points := 0
	someScenes(t, 13, 600, func(r *rand.Rand, z size, s api.LtScene) {
		at, c := r.Intn(len(s.Road.Roads)), z.class(r)
		c = asFound(c, judge(t, s, at, c))
		if !accept(t, s, at, c) {
			t.Fatalf("%+v: %+v is not accepted", s, c)
		}
		for range 20 {
			x, y, ok := pointOn(r, s.Road, at)
			if !ok {
				continue
			}
			value := lux(t, s, spot(x, y))
			if c.Kind == api.LtBright {
				value = bright(t, s, spot(x, y), c.DX, c.DY)
			}
			if value.Hi < c.Least {
				t.Fatalf("%+v: %+v is accepted, but at %d, %d it is %v", s, c, x, y, value)
			}
			if c.Least > 0 {
				points++
			}
		}
	})
	if points < 1000 {
		t.Errorf("only %d points", points)
	}
}

// alone returns a scene with the lamp of one column alone.
func alone(s api.LtScene, at int) api.LtScene {
	one := clone(s)
	for i := range one.Lamps {
		if i != at {
			one.Lamps[i] = -1
		}
	}
	return one
}

// P4.9
func TestSums(t *testing.T) {
	someScenes(t, 14, 1000, func(r *rand.Rand, z size, s api.LtScene) {
		p, x, y, front := z.patch(r), z.coordinate(r), z.coordinate(r), r.Intn(len(s.Road.Fronts))
		dx, dy := direction(r)
		results := func(s api.LtScene) (list [6]api.Encl) {
			list[0], list[1], list[2] = lux(t, s, p), bright(t, s, p, dx, dy), veil(t, s, view(x, y, dx, dy))
			list[3].Hi = window(t, s, front, 0)
			list[4].Hi, _ = light.Sky(s)
			list[5], _ = light.Power(s)
			return list
		}
		var sums [6]api.Encl
		for at := range s.Lamps {
			for i, n := range results(alone(s, at)) {
				sums[i] = plus(sums[i], n)
			}
		}
		if got := results(s); got != sums {
			t.Fatalf("%+v: %v, but the columns have %v", s, got, sums)
		}
	})
}

// moved returns a scene with all its places moved, or turned, by do, and its directions by turn.
func moved(s api.LtScene, do, turn func(p [2]int) [2]int) api.LtScene {
	m := clone(s)
	for i := range m.Road.Roads {
		for k, p := range m.Road.Roads[i].Points {
			m.Road.Roads[i].Points[k] = do(p)
		}
	}
	for i := range m.Road.Trees {
		p := do([2]int{m.Road.Trees[i].X, m.Road.Trees[i].Y})
		m.Road.Trees[i].X, m.Road.Trees[i].Y = p[0], p[1]
	}
	for i := range m.Road.Fronts {
		m.Road.Fronts[i].A, m.Road.Fronts[i].B = do(m.Road.Fronts[i].A), do(m.Road.Fronts[i].B)
	}
	for i := range m.Road.Columns {
		c := &m.Road.Columns[i]
		p, d := do([2]int{c.X, c.Y}), turn([2]int{c.DX, c.DY})
		c.X, c.Y, c.DX, c.DY = p[0], p[1], d[0], d[1]
	}
	return m
}

// P4.10
func TestMovedAndTurned(t *testing.T) {
	right := func(p [2]int) [2]int { return [2]int{-p[1], p[0]} }
	back := func(p [2]int) [2]int { return [2]int{-p[0], -p[1]} }
	left := func(p [2]int) [2]int { return [2]int{p[1], -p[0]} }
	same := func(p [2]int) [2]int { return p }
	someScenes(t, 15, 1500, func(r *rand.Rand, z size, s api.LtScene) {
		by := [2]int{}
		if z.place < api.MaxRdPlace {
			by = [2]int{between(r, z.place-api.MaxRdPlace, api.MaxRdPlace-z.place), between(r, z.place-api.MaxRdPlace, api.MaxRdPlace-z.place)}
		}
		turn := []func(p [2]int) [2]int{right, back, left, same}[r.Intn(4)]
		do := func(p [2]int) [2]int { q := turn(p); return [2]int{q[0] + by[0], q[1] + by[1]} }
		m := moved(s, do, turn)
		p, v := z.patch(r), [2]int{z.coordinate(r), z.coordinate(r)}
		a, b := do([2]int{p.X0, p.Y0}), do([2]int{p.X1, p.Y1})
		q := patch(min(a[0], b[0]), min(a[1], b[1]), max(a[0], b[0]), max(a[1], b[1]))
		dx, dy := direction(r)
		d, w := turn([2]int{dx, dy}), do(v)
		if x, y := lux(t, s, p), lux(t, m, q); x != y {
			t.Fatalf("%+v: Lux(%v) = %v, moved %v", s, p, x, y)
		}
		if x, y := bright(t, s, p, dx, dy), bright(t, m, q, d[0], d[1]); x != y {
			t.Fatalf("%+v: Bright(%v) = %v, moved %v", s, p, x, y)
		}
		if x, y := veil(t, s, view(v[0], v[1], dx, dy)), veil(t, m, view(w[0], w[1], d[0], d[1])); x != y {
			t.Fatalf("%+v: Veil(%v) = %v, moved %v", s, v, x, y)
		}
	})
}

// P4.11
func TestLess(t *testing.T) {
	someScenes(t, 16, 1500, func(r *rand.Rand, z size, s api.LtScene) {
		p, v := z.patch(r), view(z.coordinate(r), z.coordinate(r), 0, 0)
		v.DX, v.DY = direction(r)
		x, b, w := lux(t, s, p), bright(t, s, p, v.DX, v.DY), veil(t, s, v)
		dim, at := clone(s), r.Intn(len(s.Uses))
		dim.Uses[at].Level = r.Intn(s.Uses[at].Level + 1)
		if !isLess(lux(t, dim, p), x) || !isLess(bright(t, dim, p, v.DX, v.DY), b) || !isLess(veil(t, dim, v), w) {
			t.Fatalf("%+v: more with a level of %d", s, dim.Uses[at].Level)
		}
		bare := clone(s)
		bare.Road.Trees = bare.Road.Trees[:len(s.Road.Trees)/2]
		if !isLess(x, lux(t, bare, p)) || !isLess(b, bright(t, bare, p, v.DX, v.DY)) {
			t.Fatalf("%+v: less without trees", s)
		}
	})
}

// P4.12
func TestClassesAndAge(t *testing.T) {
	someScenes(t, 17, 400, func(r *rand.Rand, z size, s api.LtScene) {
		at, c := r.Intn(len(s.Road.Roads)), z.class(r)
		x := judge(t, s, at, c)
		c = asFound(c, x)
		c.Average, c.Least, c.Uniform, c.Glare = edged(r, 0, c.Average), edged(r, 0, c.Least), edged(r, 0, c.Uniform), edged(r, c.Glare, api.MaxGlare)
		if !accept(t, s, at, c) {
			t.Fatalf("%+v: %+v is not accepted with %+v", s, c, x)
		}
		old, n := clone(s), r.Intn(len(s.Uses))
		old.Uses[n].Hours = edged(r, s.Uses[n].Hours, api.MaxHours)
		old.Uses[n].Months = edged(r, s.Uses[n].Months, api.MaxMonths)
		if y := judge(t, old, at, c); !isLess(y.Average, x.Average) || !isLess(y.Least, x.Least) {
			t.Fatalf("%+v: %+v, and with %+v %+v", s, x, old.Uses[n], y)
		}
	})
}

// exact returns the intensity of a table at the tangents u and v, without rounding; Side, if they are not in it.
func exact(t api.LmTable, u, v *big.Rat) *big.Rat {
	in := func(list []int, n *big.Rat) bool {
		return fraction(1, list[0]).Cmp(n) <= 0 && n.Cmp(fraction(1, list[len(list)-1])) <= 0
	}
	if !in(t.Us, u) || !in(t.Vs, v) {
		return fraction(1, t.Side)
	}
	share := func(list []int, n *big.Rat) (at int, rest *big.Rat) {
		for at+2 < len(list) && fraction(1, list[at+1]).Cmp(n) <= 0 {
			at++
		}
		rest = new(big.Rat).Sub(n, fraction(1, list[at]))
		return at, rest.Mul(rest, fraction(list[at+1]-list[at]))
	}
	mix := func(a, b, rest *big.Rat) *big.Rat {
		d := new(big.Rat).Sub(b, a)
		return d.Add(a, d.Mul(d, rest))
	}
	i, du := share(t.Us, u)
	k, dv := share(t.Vs, v)
	row := func(values []int) *big.Rat { return mix(fraction(1, values[k]), fraction(1, values[k+1]), dv) }
	return mix(row(t.Values[i]), row(t.Values[i+1]), du)
}

// onPoint returns the greatest light that the lamp of a column makes on a point of a wall, in millilux. The length of
// the heading is an integer.
func onPoint(s api.LtScene, at, x, y, height int) *big.Rat {
	c := s.Road.Columns[at]
	table := s.Catalog.Tables[s.Catalog.Lamps[s.Lamps[at]].Table]
	dx, dy, depth := x-c.X, y-c.Y, 100*c.Height-height
	length, _ := root(c.DX*c.DX + c.DY*c.DY)
	flux, _ := lamp.Flux(s.Catalog, s.Lamps[at], s.Uses[at])
	i := fraction(1, table.Sky)
	if depth > 0 {
		i = exact(table, fraction(depth*length, 1000, dx*c.DY-dy*c.DX), fraction(depth*length, 1000, dx*c.DX+dy*c.DY))
	}
	square := dx*dx + dy*dy + depth*depth
	return i.Mul(i, fraction(max(square, 1)*1000, 1000000, flux.Hi))
}

// P4.13
func TestWindowsGetNoMore(t *testing.T) {
	headings := [][2]int{{0, 1}, {1, 0}, {-3, 4}, {-4, -3}, {12, -5}, {0, -1}, {-1, 0}, {600, 800}}
	points := 0
	someScenes(t, 18, 1500, func(r *rand.Rand, z size, s api.LtScene) {
		at, front := r.Intn(len(s.Lamps)), r.Intn(len(s.Road.Fronts))
		c, f := &s.Road.Columns[at], &s.Road.Fronts[front]
		h := headings[r.Intn(len(headings))]
		c.DX, c.DY = h[0], h[1]
		f.A[r.Intn(2)], f.B[r.Intn(2)] = between(r, -9000, 9000), between(r, -9000, 9000)
		k := r.Intn(2)
		if f.A[k] = f.B[k]; f.A == f.B { // along an axis, so that there are points with integer coordinates
			return
		}
		s = alone(s, at)
		most := window(t, s, front, 0)
		if faces, _ := road.Faces(s.Road, at, front); !faces || s.Lamps[at] == -1 {
			if most != 0 {
				t.Fatalf("%+v: Window(%d, 0) = %d", s, front, most)
			}
			return
		}
		w := f.Windows[0]
		from, to := f.A[1-k]*(1000-w.From)+f.B[1-k]*w.From, f.A[1-k]*(1000-w.To)+f.B[1-k]*w.To
		from, to = up(1000, min(from, to)), down(1000, max(from, to))
		for range 10 {
			height := edged(r, 100*w.Low, 100*w.High)
			if r.Intn(3) == 0 && w.Low <= c.Height && c.Height <= w.High {
				height = 100 * c.Height
			}
			if from > to {
				return
			}
			points++
			p := f.A
			p[1-k] = edged(r, from, to)
			if n := onPoint(s, at, p[0], p[1], height); n.Cmp(fraction(1, most)) > 0 {
				t.Fatalf("%+v: Window(%d, 0) = %d, but at %v, %d it is %v", s, front, most, p, height, n)
			}
		}
	})
	if points < 3000 {
		t.Errorf("only %d points", points)
	}
}

// P4.13: a point of a window gets nearly as much as its number says, if the window is small and before the lamp.
func TestSmallWindows(t *testing.T) {
	s := behind(50, 51)
	s.Road.Fronts[0].Windows[0].From, s.Road.Fronts[0].Windows[0].To = 499, 501
	most := window(t, s, 0, 0)
	if n := floor(onPoint(s, 0, 0, 8000, 5100)); n > most || 100*n < 95*most {
		t.Errorf("Window = %d, but a point gets %d", most, n)
	}
}
