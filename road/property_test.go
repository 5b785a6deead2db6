package road_test

import (
	"math/rand"
	"slices"
	"testing"

	"linkboy/api"
	"linkboy/road"
)

// someScenes does something with scenes of all sizes, each with a patch, at an index of a road and of a column.
func someScenes(seed int64, count int, do func(r *rand.Rand, z size, s api.RdScene, at int, p api.RdPatch)) {
	r := rand.New(rand.NewSource(seed))
	for i := range count {
		z := sizes[i%3]
		s := z.scene(r)
		do(r, z, s, r.Intn(len(s.Roads)), z.patch(r))
	}
}

// pointIn returns a point of a patch, often one at its border.
func pointIn(r *rand.Rand, p api.RdPatch) (x, y int) {
	x, y = between(r, p.X0, p.X1), between(r, p.Y0, p.Y1)
	if r.Intn(2) == 0 {
		x = []int{p.X0, p.X1}[r.Intn(2)]
	}
	if r.Intn(2) == 0 {
		y = []int{p.Y0, p.Y1}[r.Intn(2)]
	}
	return x, y
}

// P3.7
func TestPointsAndPatches(t *testing.T) {
	someScenes(21, 3000, func(r *rand.Rand, _ size, s api.RdScene, at int, p api.RdPatch) {
		n, dark := meets(t, s, at, p), shade(t, s, at, p)
		for range 10 {
			x, y := pointIn(r, p)
			is, tree := on(t, s, at, x, y), shaded(t, s, at, x, y)
			if n == api.RdAll && !is || n == api.RdNone && is {
				t.Fatalf("%v: Meets(%v) = %d, but On(%d, %d) = %v", s, p, n, x, y, is)
			}
			if dark == api.RdDark && tree < 0 || dark == api.RdLit && tree >= 0 {
				t.Fatalf("%v: Shade(%v) = %d, but Shaded(%d, %d) = %d", s, p, dark, x, y, tree)
			}
			if m := meets(t, s, at, spot(x, y)); is != (m == api.RdAll) || !is && m != api.RdNone {
				t.Fatalf("%v: Meets at %d, %d = %d, but On = %v", s, x, y, m, is)
			}
			if m := shade(t, s, at, spot(x, y)); m == api.RdPart || (m == api.RdDark) != (tree >= 0) {
				t.Fatalf("%v: Shade at %d, %d = %d, but Shaded = %d", s, x, y, m, tree)
			}
		}
	})
}

// P3.7: all points of small patches.
func TestAllPointsOfPatches(t *testing.T) {
	someScenes(22, 300, func(r *rand.Rand, z size, s api.RdScene, at int, p api.RdPatch) {
		p.X1, p.Y1 = min(p.X1, p.X0+7), min(p.Y1, p.Y0+7)
		n, dark := meets(t, s, at, p), shade(t, s, at, p)
		for x := p.X0; x <= p.X1; x++ {
			for y := p.Y0; y <= p.Y1; y++ {
				is, tree := on(t, s, at, x, y), shaded(t, s, at, x, y)
				if n == api.RdAll && !is || n == api.RdNone && is || dark == api.RdDark && tree < 0 || dark == api.RdLit && tree >= 0 {
					t.Fatalf("%v: Meets, Shade(%v) = %d, %d, but On, Shaded(%d, %d) = %v, %d", s, p, n, dark, x, y, is, tree)
				}
			}
		}
	})
}

// P3.8
func TestHalves(t *testing.T) {
	someScenes(23, 6000, func(r *rand.Rand, _ size, s api.RdScene, at int, p api.RdPatch) {
		x, y := pointIn(r, p)
		a, b := p, p
		if r.Intn(2) == 0 {
			a.X1, b.X0 = x, x
		} else {
			a.Y1, b.Y0 = y, y
		}
		n, n1, n2 := meets(t, s, at, p), meets(t, s, at, a), meets(t, s, at, b)
		if (n != api.RdNone) != (n1 != api.RdNone || n2 != api.RdNone) || n == api.RdAll && (n1 != api.RdAll || n2 != api.RdAll) {
			t.Fatalf("%v: Meets(%v) = %d, of its halves %d and %d", s, p, n, n1, n2)
		}
		n, n1, n2 = shade(t, s, at, p), shade(t, s, at, a), shade(t, s, at, b)
		if (n == api.RdLit) != (n1 == api.RdLit && n2 == api.RdLit) || n == api.RdDark && (n1 != api.RdDark || n2 != api.RdDark) {
			t.Fatalf("%v: Shade(%v) = %d, of its halves %d and %d", s, p, n, n1, n2)
		}
	})
}

// P3.9
func TestRoadsAreCovered(t *testing.T) {
	covered := 0
	someScenes(24, 300, func(r *rand.Rand, z size, s api.RdScene, at int, _ api.RdPatch) {
		list := patches(t, s, at, between(r, max(api.MinRdStep, z.place/8), z.place))
		d := s.Roads[at]
		for range 200 {
			// A point near the centre line.
			i := r.Intn(len(d.Points) - 1)
			a, b, share := d.Points[i], d.Points[i+1], r.Intn(1001)
			x := a[0] + (b[0]-a[0])*share/1000 + between(r, -d.Width/2, d.Width/2)
			y := a[1] + (b[1]-a[1])*share/1000 + between(r, -d.Width/2, d.Width/2)
			if !isPatch(spot(x, y)) || !on(t, s, at, x, y) {
				continue
			}
			covered++
			if !slices.ContainsFunc(list, func(p api.RdPatch) bool { return p.X0 <= x && x <= p.X1 && p.Y0 <= y && y <= p.Y1 }) {
				t.Fatalf("%v: %d, %d is in none of %v", d, x, y, list)
			}
		}
	})
	if covered < 10000 {
		t.Errorf("%d points", covered)
	}
}

// moved returns a scene with all its places moved, or turned, by do, and its headings by turn.
func moved(s api.RdScene, do, turn func([2]int) [2]int) api.RdScene {
	s = clone(s)
	for i := range s.Roads {
		for k, p := range s.Roads[i].Points {
			s.Roads[i].Points[k] = do(p)
		}
	}
	for i, t := range s.Trees {
		p := do([2]int{t.X, t.Y})
		s.Trees[i].X, s.Trees[i].Y = p[0], p[1]
	}
	for i, f := range s.Fronts {
		s.Fronts[i].A, s.Fronts[i].B = do(f.A), do(f.B)
	}
	for i, c := range s.Columns {
		p, h := do([2]int{c.X, c.Y}), turn([2]int{c.DX, c.DY})
		s.Columns[i].X, s.Columns[i].Y, s.Columns[i].DX, s.Columns[i].DY = p[0], p[1], h[0], h[1]
	}
	return s
}

// movedPatch returns the patch whose opposite corners are those of p, moved by do.
func movedPatch(p api.RdPatch, do func([2]int) [2]int) api.RdPatch {
	a, b := do([2]int{p.X0, p.Y0}), do([2]int{p.X1, p.Y1})
	return patch(min(a[0], b[0]), min(a[1], b[1]), max(a[0], b[0]), max(a[1], b[1]))
}

// wantSame compares a scene and a moved one, at a patch and the moved one.
func wantSame(t *testing.T, s, m api.RdScene, at int, p api.RdPatch, do func([2]int) [2]int) {
	t.Helper()
	q := movedPatch(p, do)
	a, b := [2]int{p.X0, p.Y1}, do([2]int{p.X0, p.Y1})
	if meets(t, s, at, p) != meets(t, m, at, q) || on(t, s, at, a[0], a[1]) != on(t, m, at, b[0], b[1]) {
		t.Fatalf("On or Meets of %v and %v are not those of %v and %v", s, p, m, q)
	}
	if shade(t, s, at, p) != shade(t, m, at, q) || shaded(t, s, at, a[0], a[1]) != shaded(t, m, at, b[0], b[1]) {
		t.Fatalf("Shade or Shaded of %v and %v are not those of %v and %v", s, p, m, q)
	}
	for front := range s.Fronts {
		x, _ := road.Faces(s, at, front)
		if y, e := road.Faces(m, at, front); x != y || e != api.OK {
			t.Fatalf("Faces of %v is not that of %v", s, m)
		}
	}
}

// P3.10
func TestMovedAndTurned(t *testing.T) {
	quarter := func(p [2]int) [2]int { return [2]int{-p[1], p[0]} }
	someScenes(25, 3000, func(r *rand.Rand, z size, s api.RdScene, at int, p api.RdPatch) {
		m, q := moved(s, quarter, quarter), movedPatch(p, quarter)
		wantSame(t, s, m, at, p, quarter)
		half := moved(m, quarter, quarter)
		wantSame(t, m, half, at, q, quarter)
		wantSame(t, half, moved(half, quarter, quarter), at, movedPatch(q, quarter), quarter)
		if z != great {
			far := api.MaxRdPlace - z.place
			x, y := []int{-far, far, between(r, -far, far)}[r.Intn(3)], between(r, -far, far)
			move := func(p [2]int) [2]int { return [2]int{p[0] + x, p[1] + y} }
			wantSame(t, s, moved(s, move, func(p [2]int) [2]int { return p }), at, p, move)
		}
	})
}

// P3.10: a road with its points in the reverse order.
func TestReversed(t *testing.T) {
	someScenes(26, 3000, func(r *rand.Rand, _ size, s api.RdScene, at int, p api.RdPatch) {
		m := clone(s)
		slices.Reverse(m.Roads[at].Points)
		if on(t, s, at, p.X0, p.Y0) != on(t, m, at, p.X0, p.Y0) || meets(t, s, at, p) != meets(t, m, at, p) {
			t.Fatalf("%v: the reverse of road %d is another one at %v", s, at, p)
		}
	})
}

// moreShade returns a scene with another tree, or with a greater one.
func moreShade(r *rand.Rand, z size, s api.RdScene) api.RdScene {
	s = clone(s)
	tree := &s.Trees[r.Intn(len(s.Trees))]
	switch r.Intn(4) {
	case 0:
		s.Trees = append(s.Trees, z.tree(r))
	case 1:
		tree.R = between(r, tree.R, api.MaxRdCrown)
	case 2:
		tree.High = between(r, tree.High, api.MaxRdTall)
	case 3:
		tree.Low = between(r, 0, tree.Low)
	}
	return s
}

// P3.11
func TestMoreShadeAndWiderRoads(t *testing.T) {
	someScenes(27, 6000, func(r *rand.Rand, z size, s api.RdScene, at int, p api.RdPatch) {
		m := moreShade(r, z, s)
		if a, b := shade(t, s, at, p), shade(t, m, at, p); a > b {
			t.Fatalf("Shade(%v) = %d of %v, but %d of %v", p, a, s.Trees, b, m.Trees)
		}
		if a, b := shaded(t, s, at, p.X0, p.Y0), shaded(t, m, at, p.X0, p.Y0); a >= 0 && b < 0 {
			t.Fatalf("Shaded(%v) = %d of %v, but %d of %v", p, a, s.Trees, b, m.Trees)
		}
		m = clone(s)
		m.Roads[at].Width = between(r, s.Roads[at].Width, api.MaxRdWidth)
		if on(t, s, at, p.X0, p.Y0) && !on(t, m, at, p.X0, p.Y0) || meets(t, s, at, p) > meets(t, m, at, p) {
			t.Fatalf("%v: %v is on the road, but not on a wider one", s.Roads[at], p)
		}
	})
}
