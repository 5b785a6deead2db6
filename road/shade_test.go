package road_test

import (
	"math"
	"math/rand"
	"testing"

	"linkboy/api"
	"linkboy/road"
)

// oneTree returns a scene with a tree, and a lamp at a place and a height.
func oneTree(tree api.RdTree, x, y, height int) api.RdScene {
	return api.RdScene{Trees: []api.RdTree{tree}, Columns: []api.RdColumn{{Name: "c", X: x, Y: y, Height: height, DX: 1}}}
}

// P3.5: the examples, and the edges of shadows.
func TestShaded(t *testing.T) {
	s := example()
	// The lamp is 6 m high above the origin; the shadow begins behind the crown's axis at a quarter more, or half of it
	// more, as its lower half is 2 m, or its top 3 m high.
	crown := func(low, high int) api.RdScene {
		return oneTree(api.RdTree{X: 3000, R: 500, Low: low, High: high}, 0, 0, 60)
	}
	for _, c := range []struct {
		s             api.RdScene
		x, y, shadows int
	}{
		{s, 4000, 2500, 0}, {s, 4000, 0, 0}, {s, 4000, 4000, 0}, {s, 4000, 5000, -1}, {s, 8000, 4000, -1},
		{crown(20, 30), 3749, 0, -1}, {crown(20, 30), 3750, 0, 0}, {crown(20, 30), 7000, 0, 0}, {crown(20, 30), 7001, 0, -1},
		{crown(20, 30), 4500, 750, 0}, {crown(20, 30), 4500, 770, -1}, {crown(20, 30), 6000, 1000, 0}, {crown(20, 30), 6000, 1001, -1},
		{crown(0, 30), 2499, 0, -1}, {crown(0, 30), 2500, 0, 0}, {crown(0, 30), 3000, 507, 0}, {crown(0, 30), 3000, -508, -1}, // down to the ground
		{crown(20, 60), 7001, 0, 0}, {crown(20, 60), 100000, 0, 0}, {crown(20, 60), 3749, 0, -1}, // up to the lamp: without end
		{crown(20, 1000), 100000, 0, 0}, {crown(20, 1000), -4500, 0, -1}, // likewise, but not behind the lamp
		{crown(20, 59), 100000, 0, 0}, {crown(59, 60), 100000, 0, -1}, {crown(57, 58), 100000, 0, 0}, // 60 times as far, or more
		{crown(60, 61), 3000, 0, -1}, {crown(61, 62), 3000, 0, -1}, {crown(60, 1000), 100000, 0, -1}, // not below the lamp
	} {
		if tree := shaded(t, c.s, 0, c.x, c.y); tree != c.shadows {
			t.Errorf("Shaded(%d, %d) by %v = %d, want %d", c.x, c.y, c.s.Trees[0], tree, c.shadows)
		}
	}
}

// P3.5: a lamp in a crown, or on its surface, is shaded everywhere.
func TestLampInCrown(t *testing.T) {
	far := api.MaxRdPlace
	for _, c := range []struct {
		tree   api.RdTree
		height int
		want   int
	}{
		{api.RdTree{X: 1000, Y: 1000, R: 1, Low: 10, High: 20}, 15, 0},
		{api.RdTree{X: 1300, Y: 1400, R: 500, Low: 10, High: 20}, 15, 0},   // beside it
		{api.RdTree{X: 1300, Y: 1401, R: 500, Low: 10, High: 20}, 15, -1},  // it does not touch it
		{api.RdTree{X: 1100, Y: 1000, R: 500, Low: 15, High: 20}, 15, 0},   // below it
		{api.RdTree{X: 1100, Y: 1000, R: 500, Low: 16, High: 20}, 15, -1},  // it does not touch it
		{api.RdTree{X: 1100, Y: 1000, R: 500, Low: 10, High: 15}, 15, 0},   // on it
		{api.RdTree{X: 1300, Y: 1400, R: 500, Low: 15, High: 1000}, 15, 0}, // at the edge
		{api.RdTree{X: 1000, Y: 1000, R: 500, Low: 0, High: 1}, 1, 0},
	} {
		s := oneTree(c.tree, 1000, 1000, c.height)
		for _, p := range [][2]int{{1000, 1000}, {-far, far}, {far, -far}, {-far, -far}, {0, 1000}, {900, 900}} {
			if towards := (p[0]-1000)*(c.tree.X-1000) + (p[1]-1000)*(c.tree.Y-1000); c.want < 0 && towards > 0 {
				continue
			}
			if tree := shaded(t, s, 0, p[0], p[1]); tree != c.want {
				t.Errorf("%v, at %v = %d, want %d", c.tree, p, tree, c.want)
			}
		}
		if all := patch(-far, -far, far, far); c.want == 0 && shade(t, s, 0, all) != api.RdDark {
			t.Errorf("%v: Shade of all = %d", c.tree, shade(t, s, 0, all))
		}
	}
}

// P3.5: the first tree.
func TestShadedFirstTree(t *testing.T) {
	s := example()
	s.Trees = []api.RdTree{{X: 90000, R: 1, High: 1}, s.Trees[0], s.Trees[0], {X: 4000, Y: 0, R: 100, High: 1}}
	for _, c := range []struct{ x, y, want int }{{4000, 2500, 1}, {4000, 0, 1}, {90000, 0, 0}, {4090, 0, 1}, {4000, -3300, -1}} {
		if tree := shaded(t, s, 0, c.x, c.y); tree != c.want {
			t.Errorf("Shaded(%d, %d) = %d, want %d", c.x, c.y, tree, c.want)
		}
	}
	s.Trees = s.Trees[3:]
	if tree := shaded(t, s, 0, 4000, 0); tree != 0 {
		t.Errorf("Shaded = %d", tree)
	}
	s.Trees = nil
	if tree := shaded(t, s, 0, 4000, 2500); tree != -1 {
		t.Errorf("Shaded without trees = %d", tree)
	}
	if n := shade(t, s, 0, patch(0, 0, 1, 1)); n != api.RdLit {
		t.Errorf("Shade without trees = %d", n)
	}
}

// P3.5: the examples, and patches at the edges of shadows.
func TestShade(t *testing.T) {
	s := example()
	wood := oneTree(api.RdTree{X: 3000, R: 500, Low: 20, High: 30}, 0, 0, 60)       // its shadow is from 3750 to 7000
	wood.Trees = append(wood.Trees, api.RdTree{X: 3500, R: 500, Low: 20, High: 30}) // from 4500 to 8000
	for _, c := range []struct {
		s    api.RdScene
		p    api.RdPatch
		want int
	}{
		{s, patch(3900, 2000, 4100, 2500), api.RdDark},
		{s, patch(3900, 3900, 4100, 4100), api.RdPart},
		{s, patch(8000, 0, 9000, 1000), api.RdLit},
		{wood, patch(3750, 0, 7000, 0), api.RdDark},
		{wood, patch(3749, 0, 7000, 0), api.RdPart},
		{wood, patch(4500, 0, 8000, 0), api.RdDark},        // of the second tree
		{wood, patch(3750, 0, 8000, 0), api.RdPart},        // all of it is shaded, but by two trees
		{wood, patch(3000, -9000, 3750, 9000), api.RdPart}, // it touches the shadow
		{wood, patch(3000, -9000, 3749, 9000), api.RdLit},
		{wood, patch(8000, -9000, 9000, 9000), api.RdPart},
		{wood, patch(8001, -9000, 9000, 9000), api.RdLit},
		{wood, patch(5000, -9000, 5001, 9000), api.RdPart},  // across, all corners are lit
		{wood, patch(-9000, -9000, 9000, 9000), api.RdPart}, // around
		{wood, patch(3000, 1000, 9000, 9000), api.RdPart},   // it touches the side, where the shadow is 1000 wide
		{wood, patch(3000, 1001, 9000, 9000), api.RdLit},
		{wood, patch(3750, 0, 3750, 0), api.RdDark},
		{wood, patch(3749, 0, 3749, 0), api.RdLit},
	} {
		if n := shade(t, c.s, 0, c.p); n != c.want {
			t.Errorf("Shade(%v) = %d, want %d", c.p, n, c.want)
		}
	}
}

// P3.5: any trees, lamps and patches, as exact fractions say; many of them touch each other.
func TestShadeIsExact(t *testing.T) {
	r := rand.New(rand.NewSource(6))
	var counts tally
	for i := range 20000 {
		z := sizes[i%3]
		s := api.RdScene{Trees: []api.RdTree{z.tree(r), z.tree(r)}, Columns: []api.RdColumn{z.column(r, "c")}}
		p := z.patch(r)
		want, touches := trueExtent(shadows(s, 0), p)
		if n := shade(t, s, 0, p); n != want {
			t.Fatalf("Shade(%v) of %v = %d, want %d", p, s, n, want)
		}
		tree := -1
		for k, distance := range shadows(s, 0) {
			if tree < 0 && distance(spot(p.X1, p.Y0)) <= 0 {
				tree = k
			}
		}
		if n := shaded(t, s, 0, p.X1, p.Y0); n != tree {
			t.Fatalf("Shaded(%d, %d) of %v = %d, want %d", p.X1, p.Y0, s, n, tree)
		}
		counts.add(i%3, want, touches)
	}
	counts.wantEnough(t)
}

// P3.5: each error, in its order.
func TestShadedAndShadeErrors(t *testing.T) {
	s := example()
	far := api.MaxRdPlace
	for _, c := range []struct {
		at, x, y int
		e        api.Errno
	}{
		{-1, 0, 0, api.ErrNone}, {1, 0, 0, api.ErrNone}, {math.MaxInt, 0, 0, api.ErrNone}, {math.MinInt, far + 1, 0, api.ErrNone},
		{0, far + 1, 0, api.ErrRange}, {0, -far - 1, 0, api.ErrRange}, {0, 0, far + 1, api.ErrRange}, {0, 0, -far - 1, api.ErrRange},
		{0, math.MaxInt, 0, api.ErrRange}, {0, 0, math.MinInt, api.ErrRange},
	} {
		if tree, e := road.Shaded(s, c.at, c.x, c.y); tree != 0 || e != c.e {
			t.Errorf("Shaded(%d, %d, %d) = %d, %d, want %d", c.at, c.x, c.y, tree, e, c.e)
		}
		if n, e := road.Shade(s, c.at, spot(c.x, c.y)); n != 0 || e != c.e {
			t.Errorf("Shade(%d, %d, %d) = %d, %d, want %d", c.at, c.x, c.y, n, e, c.e)
		}
	}
	for _, p := range noPatches() {
		if n, e := road.Shade(s, 0, p); n != 0 || e != api.ErrRange {
			t.Errorf("Shade(0, %v) = %d, %d", p, n, e)
		}
		if n, e := road.Shade(s, 1, p); n != 0 || e != api.ErrNone {
			t.Errorf("Shade(1, %v) = %d, %d", p, n, e)
		}
	}
	if tree := shaded(t, s, 0, far, -far); tree != -1 {
		t.Errorf("Shaded far away = %d", tree)
	}
}
