package road_test

import (
	"math"
	"math/rand"
	"reflect"
	"slices"
	"testing"

	"linkboy/api"
	"linkboy/road"
)

// P3.2: the examples, and the edges of strips.
func TestOn(t *testing.T) {
	s := example()
	slanted := oneRoad(10000, [2]int{-60000, -80000}, [2]int{60000, 80000})
	odd := oneRoad(101, [2]int{0, 0}, [2]int{1000, 0})
	point := oneRoad(100, [2]int{0, 0}, [2]int{1, 0}, [2]int{1, 2000})
	for _, c := range []struct {
		s        api.RdScene
		at, x, y int
		want     bool
	}{
		{s, 0, 5000, 2000, true},
		{s, 0, 5000, 2001, false},
		{s, 0, 12000, 0, true},
		{s, 0, 11500, -1500, false}, // 2121 mm from the corner
		{s, 0, 8000, 2001, true},    // on the strip of the second piece alone
		{s, 0, 7999, 2001, false},
		{s, 0, -2000, 0, true}, // the round ends
		{s, 0, -2000, 1, false},
		{s, 0, -1200, 1600, true},
		{s, 0, -1200, 1601, false},
		{s, 0, 10000, 12000, true},
		{s, 0, 10000, 12001, false},
		{s, 1, 6500, 2000, true},
		{s, 1, 6501, 0, false},
		{slanted, 0, 4000, -3000, true},
		{slanted, 0, 4001, -3000, false},
		{slanted, 0, -4000, 3000, true},
		{slanted, 0, -4000, 3001, false},
		{odd, 0, 500, 50, true}, // half of the width is 50.5
		{odd, 0, 500, 51, false},
		{odd, 0, -50, 7, true},
		{odd, 0, -50, 8, false},
		{point, 0, 50, 2000, true}, // 49 mm from the second piece
		{point, 0, -49, 100, true},
		{point, 0, -50, 100, false},
		{point, 0, -50, 0, true},
	} {
		if is := on(t, c.s, c.at, c.x, c.y); is != c.want {
			t.Errorf("On(%d, %d, %d) = %v", c.at, c.x, c.y, is)
		}
	}
}

// P3.2: products with more than 64 bits. The line goes from corner to corner, so that its normal is (1, -1), and half of
// the width is 15000 mm, so that the border is 15000 sqrt(2) = 21213.2 mm away on the axes.
func TestOnFarAway(t *testing.T) {
	far := api.MaxRdPlace
	s := oneRoad(30000, [2]int{-far, -far}, [2]int{far, far})
	for _, c := range []struct {
		x, y int
		want bool
	}{
		{21213, 0, true}, {21214, 0, false}, {0, -21213, true}, {0, -21214, false},
		{far, far - 21213, true}, {far, far - 21214, false}, {far, -far, false}, {-far, far, false}, {-far, -far, true},
	} {
		if is := on(t, s, 0, c.x, c.y); is != c.want {
			t.Errorf("On(%d, %d) = %v", c.x, c.y, is)
		}
	}
}

// P3.2
func TestMeets(t *testing.T) {
	s := example()
	slanted := oneRoad(10000, [2]int{-60000, -80000}, [2]int{60000, 80000})
	for _, c := range []struct {
		s    api.RdScene
		at   int
		p    api.RdPatch
		want int
	}{
		{s, 0, patch(0, 0, 1000, 1000), api.RdAll},
		{s, 0, patch(0, 1000, 1000, 2001), api.RdSome},
		{s, 0, patch(0, 3000, 1000, 4000), api.RdNone},
		{s, 0, patch(9000, 1000, 11000, 3000), api.RdAll}, // of the second piece
		{s, 0, patch(8500, -1500, 11500, 1500), api.RdSome},
		{s, 0, patch(7000, 1000, 9000, 2100), api.RdSome},                   // all of it is on the road, but of two strips
		{s, 0, patch(0, 2000, 1000, 2000), api.RdAll},                       // the border
		{s, 0, patch(0, 2000, 1000, 3000), api.RdSome},                      // it touches the border
		{s, 0, patch(0, 2001, 1000, 3000), api.RdNone},                      // it does not
		{s, 0, patch(-3000, -3000, -1200, -1600), api.RdSome},               // its corner touches the round end
		{s, 0, patch(-3000, -3000, -1201, -1600), api.RdNone},               // it does not
		{s, 0, patch(-3000, -5000, -2000, 5000), api.RdSome},                // its side touches the round end
		{s, 0, patch(-3000, -5000, -2001, 5000), api.RdNone},                // it does not
		{s, 0, patch(-100000, -100000, 100000, 100000), api.RdSome},         // the whole road is in it
		{s, 1, patch(2000, -500, 8000, 500), api.RdSome},                    // it goes across the road, no corner of it is near
		{s, 1, patch(5000, 0, 5000, 0), api.RdAll},                          // a point
		{s, 1, patch(6500, 0, 6500, 0), api.RdAll},                          // a point of the border
		{s, 1, patch(6501, 0, 6501, 0), api.RdNone},                         // no point
		{s, 1, patch(3500, -2000, 6500, 2000), api.RdAll},                   // all but the ends
		{s, 1, patch(3500, -2001, 6500, 2000), api.RdSome},                  // more than this
		{slanted, 0, patch(4000, -30000, 30000, -3000), api.RdSome},         // its corner touches the slanted border
		{slanted, 0, patch(4001, -30000, 30000, -3000), api.RdNone},         // it does not
		{slanted, 0, patch(0, 0, 4000, 0), api.RdAll},                       // a line up to a point of the border
		{slanted, 0, patch(0, 0, 6251, 0), api.RdSome},                      // the border crosses the axis at 6250
		{slanted, 0, patch(0, 0, 6250, 0), api.RdAll},                       // likewise
		{slanted, 0, patch(-100000, 100000, 100000, 100000), api.RdNone},    // it is 20000 above the end
		{slanted, 0, patch(60000, 85000, 100000, 100000), api.RdSome},       // its corner is just above the end
		{slanted, 0, patch(60000, 85001, 100000, 100000), api.RdNone},       // likewise, and 1 mm away
		{slanted, 0, patch(20000, -100000, 100000, 100000), api.RdSome},     // the road goes through its side
		{slanted, 0, patch(-100000, -100000, -100000, -100000), api.RdNone}, // a corner of all
		{slanted, 0, patch(-100000, -1000, 100000, 1000), api.RdSome},       // across
		{slanted, 0, patch(-3000, -4000, 3000, 4000), api.RdAll},            // its diagonal is on the line
		{slanted, 0, patch(-3200, -3900, 3200, 3900), api.RdAll},            // other corners are 4.9 m away
		{slanted, 0, patch(-3300, -4000, 3300, 4000), api.RdSome},           // other corners are 5.04 m away
		{slanted, 0, patch(-60000, -100000, -60000, -85000), api.RdSome},    // the end of a line touches the end
		{slanted, 0, patch(-100000, -80000, -65000, -80000), api.RdSome},    // likewise
		{slanted, 0, patch(-100000, -80000, -65001, -80000), api.RdNone},    // likewise, and 1 mm away
		{slanted, 0, patch(-100000, -100000, 100000, -85001), api.RdNone},   // below all of it
		{slanted, 0, patch(-100000, -100000, 100000, -85000), api.RdSome},   // its side touches it from below
		{slanted, 0, patch(-100000, -100000, -65001, 100000), api.RdNone},   // left of all of it
		{slanted, 0, patch(-100000, -100000, -65000, 100000), api.RdSome},   // its side touches it from the left
		{slanted, 0, patch(65000, -100000, 100000, 100000), api.RdSome},     // from the right
		{slanted, 0, patch(65001, -100000, 100000, 100000), api.RdNone},     // right of all of it
		{slanted, 0, patch(-100000, 85000, 100000, 100000), api.RdSome},     // from above
		{slanted, 0, patch(-100000, 85001, 100000, 100000), api.RdNone},     // above all of it
		{slanted, 0, patch(-100000, -100000, 100000, 100000-1), api.RdSome}, // nearly all
	} {
		if n := meets(t, c.s, c.at, c.p); n != c.want {
			t.Errorf("Meets(%d, %v) = %d, want %d", c.at, c.p, n, c.want)
		}
	}
}

// P3.2: any roads and patches, and points, as exact fractions say; many of them touch each other.
func TestMeetsIsExact(t *testing.T) {
	r := rand.New(rand.NewSource(2))
	var counts tally
	for i := range 12000 {
		z := sizes[i%3]
		d, p := z.road(r, "road"), z.patch(r)
		s := api.RdScene{Roads: []api.RdRoad{d}}
		want, touches := trueExtent(strips(d), p)
		if n := meets(t, s, 0, p); n != want {
			t.Fatalf("Meets of %v and %v = %d, want %d", d, p, n, want)
		}
		one, _ := trueExtent(strips(d), spot(p.X0, p.Y1))
		if is := on(t, s, 0, p.X0, p.Y1); is != (one == api.RdAll) {
			t.Fatalf("On of %v and %d, %d = %v", d, p.X0, p.Y1, is)
		}
		counts.add(i%3, want, touches)
	}
	counts.wantEnough(t)
}

// P3.2: each error, in its order.
func TestOnAndMeetsErrors(t *testing.T) {
	s := example()
	far := api.MaxRdPlace
	for _, c := range []struct {
		at, x, y int
		e        api.Errno
	}{
		{-1, 0, 0, api.ErrNone}, {2, 0, 0, api.ErrNone}, {math.MaxInt, 0, 0, api.ErrNone}, {math.MinInt, far + 1, 0, api.ErrNone},
		{0, far + 1, 0, api.ErrRange}, {0, -far - 1, 0, api.ErrRange}, {0, 0, far + 1, api.ErrRange}, {1, 0, -far - 1, api.ErrRange},
		{0, math.MaxInt, 0, api.ErrRange}, {0, 0, math.MinInt, api.ErrRange},
		{0, far, -far, api.OK}, {1, -far, far, api.OK},
	} {
		if is, e := road.On(s, c.at, c.x, c.y); is || e != c.e {
			t.Errorf("On(%d, %d, %d) = %v, %d, want %d", c.at, c.x, c.y, is, e, c.e)
		}
		if n, e := road.Meets(s, c.at, spot(c.x, c.y)); n != 0 || e != c.e {
			t.Errorf("Meets(%d, %d, %d) = %d, %d, want %d", c.at, c.x, c.y, n, e, c.e)
		}
	}
	for _, p := range noPatches() {
		if n, e := road.Meets(s, 0, p); n != 0 || e != api.ErrRange {
			t.Errorf("Meets(0, %v) = %d, %d", p, n, e)
		}
		if n, e := road.Meets(s, 2, p); n != 0 || e != api.ErrNone {
			t.Errorf("Meets(2, %v) = %d, %d", p, n, e)
		}
	}
}

// noPatches returns what are no patches.
func noPatches() []api.RdPatch {
	far := api.MaxRdPlace
	return []api.RdPatch{
		patch(1, 0, 0, 0), patch(0, 1, 0, 0), patch(far+1, 0, far+1, 0), patch(0, 0, far+1, 0), patch(0, 0, 0, far+1),
		patch(-far-1, 0, 0, 0), patch(0, -far-1, 0, 0), patch(math.MinInt, math.MinInt, math.MaxInt, math.MaxInt), patch(math.MaxInt, 0, math.MinInt, 0),
	}
}

// P3.3: the example.
func TestPatchesExample(t *testing.T) {
	s := example()
	want := []api.RdPatch{patch(0, -4000, 4000, 0), patch(4000, -4000, 8000, 0), patch(0, 0, 4000, 4000), patch(4000, 0, 8000, 4000)}
	if list := patches(t, s, 1, 4000); !slices.Equal(list, want) {
		t.Errorf("Patches(1, 4000) = %v", list)
	}
	// A road that is in the middle of one square, and one that touches the squares around.
	if list := patches(t, oneRoad(100, [2]int{100, 100}, [2]int{101, 100}), 0, 1000); !slices.Equal(list, []api.RdPatch{patch(0, 0, 1000, 1000)}) {
		t.Errorf("one square: %v", list)
	}
	want = []api.RdPatch{
		patch(0, -200, 200, 0), patch(-200, 0, 0, 200), patch(0, 0, 200, 200), patch(200, 0, 400, 200), patch(0, 200, 200, 400),
	}
	if list := patches(t, oneRoad(198, [2]int{99, 99}, [2]int{101, 99}, [2]int{100, 101}), 0, 200); !slices.Equal(list, want) {
		t.Errorf("squares that are touched: %v", list)
	}
}

// trueSquares returns the squares that Patches looks at.
func trueSquares(d api.RdRoad, step int) []api.RdPatch {
	ends := func(axis int) (first, last int) {
		var list []int
		for _, p := range d.Points {
			list = append(list, p[axis])
		}
		return floor(fraction(slices.Min(list)-d.Width, step)), floor(fraction(slices.Max(list)+d.Width, step))
	}
	i0, i1 := ends(0)
	k0, k1 := ends(1)
	var list []api.RdPatch
	for k := k0; k <= k1; k++ {
		for i := i0; i <= i1; i++ {
			list = append(list, patch(i*step, k*step, (i+1)*step, (k+1)*step))
		}
	}
	return list
}

// P3.3: any roads, as exact fractions say; ascending.
func TestPatchesAreExact(t *testing.T) {
	r := rand.New(rand.NewSource(3))
	for i := range 150 {
		z := sizes[i%3]
		d := z.road(r, "road")
		step := between(r, max(api.MinRdStep, z.place/8), min(z.place, api.MaxRdPlace))
		if z.grain > 1 {
			step = z.grain * (step / z.grain)
		}
		var want []api.RdPatch
		for _, p := range trueSquares(d, step) {
			if n, _ := trueExtent(strips(d), p); n > 0 {
				want = append(want, p)
			}
		}
		list := patches(t, api.RdScene{Roads: []api.RdRoad{d}}, 0, step)
		if !slices.Equal(list, want) {
			t.Fatalf("Patches of %v with step %d = %v, want %v", d, step, list, want)
		}
		if !slices.IsSortedFunc(list, func(p, q api.RdPatch) int {
			return slices.Compare([]int{p.Y0, p.X0}, []int{q.Y0, q.X0})
		}) {
			t.Fatalf("Patches do not ascend: %v", list)
		}
	}
}

// P3.3: the errors and the limits.
func TestPatchesErrors(t *testing.T) {
	s := example()
	for _, c := range []struct {
		at, step int
		e        api.Errno
	}{
		{-1, 1000, api.ErrNone}, {2, 1000, api.ErrNone}, {2, 0, api.ErrNone}, {math.MinInt, math.MaxInt, api.ErrNone},
		{0, 0, api.ErrRange}, {0, -1000, api.ErrRange}, {0, 99, api.ErrRange}, {0, 100001, api.ErrRange}, {0, math.MaxInt, api.ErrRange}, {0, math.MinInt, api.ErrRange},
		{0, 100, api.ErrLong}, {1, 100, api.ErrLong},
	} {
		if list, e := road.Patches(s, c.at, c.step); len(list) != 0 || e != c.e {
			t.Errorf("Patches(%d, %d) = %v, %d, want %d", c.at, c.step, list, e, c.e)
		}
	}
	if list := patches(t, s, 0, api.MaxRdPlace); len(list) != 4 {
		t.Errorf("Patches(0, %d) = %v", api.MaxRdPlace, list)
	}
	if list := patches(t, oneRoad(100, [2]int{100, 100}, [2]int{101, 100}), 0, api.MinRdStep); len(list) != 4 {
		t.Errorf("with the least step: %v", list)
	}
}

// P3.3: the limits. A slanted road has few squares of the many that are looked at.
func TestPatchesLimits(t *testing.T) {
	grid := func(columns, rows, by int) api.RdScene {
		return oneRoad(100, [2]int{100 + by, 100 + by}, [2]int{100*(columns-2) + by, 100*(rows-2) + by})
	}
	for _, by := range []int{0, 50, 99, -2000, 3000, -77777, 77777} {
		for _, c := range []struct{ columns, rows int }{{50, 80}, {80, 50}, {40, 100}} {
			s := grid(c.columns, c.rows, by)
			if n := len(trueSquares(s.Roads[0], 100)); n != 4000 {
				t.Errorf("%d squares", n)
			}
			patches(t, s, 0, 100)
		}
		for _, c := range []struct{ columns, rows int }{{58, 69}, {69, 58}, {87, 46}} {
			s := grid(c.columns, c.rows, by)
			if n := len(trueSquares(s.Roads[0], 100)); n != 4002 {
				t.Errorf("%d squares", n)
			}
			if list, e := road.Patches(s, 0, 100); len(list) != 0 || e != api.ErrLong {
				t.Errorf("4002 squares: %d, %d", len(list), e)
			}
		}
	}
	far := api.MaxRdPlace
	if list, e := road.Patches(oneRoad(30000, [2]int{-far, -far}, [2]int{far, far}), 0, 100); len(list) != 0 || e != api.ErrLong {
		t.Errorf("as many squares as can be: %d, %d", len(list), e)
	}
	// It is in two rows of 200 squares each; a little longer, it touches one more.
	straight := func(end int) api.RdScene { return oneRoad(100, [2]int{100, 149}, [2]int{end, 149}) }
	if list := patches(t, straight(19949), 0, 100); len(list) != 400 {
		t.Errorf("%d patches", len(list))
	}
	if list, e := road.Patches(straight(19950), 0, 100); len(list) != 0 || e != api.ErrLong {
		t.Errorf("401 patches: %d, %d", len(list), e)
	}
}

// P3.3: squares go beyond the places by less than the width and the step.
func TestPatchesBeyondPlaces(t *testing.T) {
	far := api.MaxRdPlace
	s := oneRoad(30000, [2]int{-far, -far}, [2]int{far, far})
	beyond := 0
	for _, p := range patches(t, s, 0, 9000) {
		for _, n := range []int{-p.X0, -p.Y0, p.X1, p.Y1} {
			if n >= far+39000 {
				t.Errorf("%v is too far away", p)
			}
		}
		n, e := road.Meets(s, 0, p)
		switch {
		case isPatch(p) && (e != api.OK || n == api.RdNone):
			t.Errorf("Meets(%v) = %d, %d", p, n, e)
		case !isPatch(p):
			beyond++
			if n != 0 || e != api.ErrRange {
				t.Errorf("Meets(%v) = %d, %d", p, n, e)
			}
		}
	}
	if beyond < 10 {
		t.Errorf("%d squares are beyond", beyond)
	}
}

// P3.4
func TestStanding(t *testing.T) {
	s := example()
	s.Roads = append(s.Roads,
		api.RdRoad{Name: "path", Kind: api.RdFoot, Points: [][2]int{{0, 50000}, {1000, 50000}}, Width: 1000},
		api.RdRoad{Name: "track", Kind: api.RdCycle, Points: [][2]int{{0, 60000}, {1000, 60000}}, Width: 1000},
	)
	if list, e := road.Standing(s); len(list) != 0 || e != api.OK {
		t.Errorf("Standing = %v, %d", list, e)
	}
	for i, p := range [][2]int{{5000, 2000}, {5000, -3500}, {0, 50000}, {1000, 60500}, {1000, 60501}, {0, 2001}, {11000, 10000}} {
		s.Columns = append(s.Columns, api.RdColumn{Name: "d" + string(rune('0'+i)), X: p[0], Y: p[1], Height: 60, DX: 1})
	}
	if list, e := road.Standing(s); !slices.Equal(list, []int{1, 2, 4, 7}) || e != api.OK {
		t.Errorf("Standing = %v, %d", list, e)
	}
	s.Roads[2].Points = [][2]int{{5000, 0}, {5000, 2000}} // a foot path on a carriageway makes no difference
	if list, e := road.Standing(s); !slices.Equal(list, []int{1, 2, 4, 7}) || e != api.OK {
		t.Errorf("Standing = %v, %d", list, e)
	}
	if list, e := road.Standing(api.RdScene{Columns: s.Columns}); len(list) != 0 || e != api.OK {
		t.Errorf("Standing without roads = %v, %d", list, e)
	}
}

// P3.4: any columns, each as On says.
func TestStandingIsOn(t *testing.T) {
	r := rand.New(rand.NewSource(4))
	for i := range 300 {
		s := sizes[i%3].scene(r)
		var want []int
		for k, c := range s.Columns {
			for j, d := range s.Roads {
				if d.Kind != api.RdFoot && on(t, s, j, c.X, c.Y) {
					want = append(want, k)
					break
				}
			}
		}
		if list, e := road.Standing(s); !slices.Equal(list, want) || e != api.OK {
			t.Fatalf("Standing of %v = %v, want %v", s, list, want)
		}
	}
}

// P3.4
func TestJunctions(t *testing.T) {
	if list, e := road.Junctions(example()); len(list) != 0 || e != api.OK {
		t.Errorf("Junctions = %v, %d", list, e)
	}
	s := api.RdScene{Roads: []api.RdRoad{
		{Name: "a", Points: [][2]int{{9, 1}, {0, 0}, {-5, 7}, {0, 0}, {9, 1}}, Width: 100},
		{Name: "b", Points: [][2]int{{1, 1}, {0, 0}, {2, 2}}, Width: 100},
		{Name: "c", Kind: api.RdCrossing, Points: [][2]int{{-5, 7}, {9, 1}}, Width: 100},
		{Name: "d", Kind: api.RdFoot, Points: [][2]int{{0, 0}, {-5, -7}, {0, -1}}, Width: 100},
		{Name: "e", Points: [][2]int{{0, -1}, {1, 0}, {-5, -7}}, Width: 100},
		{Name: "f", Points: [][2]int{{3, 3}, {4, 4}, {3, 3}}, Width: 100},                 // a point that it has twice, alone
		{Name: "g", Kind: api.RdCycle, Points: [][2]int{{-100, 7}, {100, 7}}, Width: 100}, // over a point, which is none of its own
	}}
	want := []api.RdJunction{
		{X: -5, Y: -7, Roads: []int{3, 4}}, {X: -5, Y: 7, Roads: []int{0, 2}}, {X: 0, Y: -1, Roads: []int{3, 4}},
		{X: 0, Y: 0, Roads: []int{0, 1, 3}}, {X: 9, Y: 1, Roads: []int{0, 2}},
	}
	if list, e := road.Junctions(s); !reflect.DeepEqual(list, want) || e != api.OK {
		t.Errorf("Junctions = %v, %d, want %v", list, e, want)
	}
	if list, e := road.Junctions(api.RdScene{}); len(list) != 0 || e != api.OK {
		t.Errorf("Junctions of nothing = %v, %d", list, e)
	}
}

// P3.4: any roads with few different points.
func TestJunctionsOfMany(t *testing.T) {
	r := rand.New(rand.NewSource(5))
	z := size{place: 2, grain: 1, width: 100, crown: 1, height: 1}
	for range 200 {
		s := z.scene(r)
		var want []api.RdJunction
		for x := -2; x <= 2; x++ {
			for y := -2; y <= 2; y++ {
				var roads []int
				for i, d := range s.Roads {
					if slices.Contains(d.Points, [2]int{x, y}) {
						roads = append(roads, i)
					}
				}
				if len(roads) > 1 {
					want = append(want, api.RdJunction{X: x, Y: y, Roads: roads})
				}
			}
		}
		if list, e := road.Junctions(s); !reflect.DeepEqual(list, want) || e != api.OK {
			t.Fatalf("Junctions of %v = %v, want %v", s.Roads, list, want)
		}
	}
}

// P3.4
func TestBends(t *testing.T) {
	far := api.MaxRdPlace
	for _, c := range []struct {
		points [][2]int
		want   []int
	}{
		{[][2]int{{0, 0}, {10000, 0}, {10000, 10000}}, []int{1}},           // a right angle
		{[][2]int{{0, 0}, {10000, 0}, {9999, 10000}}, []int{1}},            // more
		{[][2]int{{0, 0}, {10000, 0}, {10001, 10000}}, nil},                // less
		{[][2]int{{0, 0}, {1, 0}, {2, 5}}, nil},                            // a little less
		{[][2]int{{0, 0}, {10000, 0}, {20000, 0}}, nil},                    // straight on
		{[][2]int{{0, 0}, {10000, 0}, {0, 0}, {5, 0}}, []int{1, 2}},        // back, and back
		{[][2]int{{0, 0}, {1, 1}, {2, 0}, {2, -5}, {9, -5}}, []int{1, 3}},  // right, less, right
		{[][2]int{{0, 0}, {5, 0}}, nil},                                    // no point in between
		{[][2]int{{0, 0}, {5, 0}, {5, 5}, {0, 5}, {0, 0}}, []int{1, 2, 3}}, // round, without the first and the last one
		{[][2]int{{-far, -far}, {far, far}, {-far, -far}, {far, -far + 1}}, []int{1, 2}},
		{[][2]int{{-far, -far}, {far, far}, {-far, -far}, {-far, far}, {far, far}, {far, far - 1}, {far - 1, far - 1}, {far - 1, 0}}, []int{1, 2, 3, 4, 5, 6}},
	} {
		s := example()
		s.Roads[0].Points = c.points
		if list, e := road.Bends(s, 0); !slices.Equal(list, trueBends(c.points)) || e != api.OK {
			t.Errorf("Bends of %v = %v, %d, by fractions %v", c.points, list, e, trueBends(c.points))
		}
		if list, _ := road.Bends(s, 0); !slices.Equal(list, c.want) {
			t.Errorf("Bends of %v = %v, want %v", c.points, list, c.want)
		}
	}
	if list, e := road.Bends(example(), 1); len(list) != 0 || e != api.OK {
		t.Errorf("Bends(1) = %v, %d", list, e)
	}
	for _, at := range []int{-1, 2, math.MaxInt, math.MinInt} {
		if list, e := road.Bends(example(), at); len(list) != 0 || e != api.ErrNone {
			t.Errorf("Bends(%d) = %v, %d", at, list, e)
		}
	}
}

// trueBends looks at the angle between the ways from a point to its neighbours: it is at most a right one there.
func trueBends(points [][2]int) []int {
	var list []int
	for i := 1; i < len(points)-1; i++ {
		sum := number(0)
		for axis := range 2 {
			sum = plus(sum, times(number(points[i-1][axis]-points[i][axis]), number(points[i+1][axis]-points[i][axis])))
		}
		if sum.Sign() >= 0 {
			list = append(list, i)
		}
	}
	return list
}
