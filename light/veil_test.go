package light_test

import (
	"math"
	"math/rand"
	"testing"

	"linkboy/api"
	"linkboy/light"
)

func view(x, y, dx, dy int) api.LtView { return api.LtView{X: x, Y: y, DX: dx, DY: dy} }

func wantVeil(t *testing.T, s api.LtScene, v api.LtView, want api.Encl, e api.Errno) {
	t.Helper()
	if x, f := light.Veil(s, v); x != want || f != e {
		t.Errorf("Veil(%v) = %v, %d, want %v, %d", v, x, f, want, e)
	}
}

// even returns the scene of the examples with a lamp that has 3200 mcd in all directions.
func even() api.LtScene {
	s := example()
	s.Catalog.Tables[0].Values = [][]int{{400, 400}, {400, 400}, {400, 400}}
	s.Catalog.Tables[0].Side = 400
	for i := range s.Catalog.Tables[0].Us {
		s.Catalog.Tables[0].Us[i] = []int{-5000, 0, 5000}[i]
	}
	s.Catalog.Tables[0].Vs = []int{-5000, 5000}
	return s
}

// P4.4: a veil that is worked out by hand.
func TestVeilByHand(t *testing.T) {
	// 8 m is 6500 above the eye, which is 13000 away: a tangent of 500 exactly. The square of the distance is
	// 169000000 + 42250000 = 211250000; 3200 mcd make 15.147.. there, so 15 to 16, and at least 15 * 0.707 = 10.6.
	// 10 * 1000000 / 250000 = 40, and 400000 / 3283 = 121.8; 16 * 1562500 / 250000 = 100, and 1000000 / 3282 = 304.7.
	wantVeil(t, even(), view(-13000, 0, 1, 0), encl(121, 305), api.OK)
	wantVeil(t, even(), view(0, 13000, 0, -7), encl(121, 305), api.OK)
}

// P4.4: which columns count.
func TestVeilCounts(t *testing.T) {
	s := even()
	for _, x := range []struct {
		v      api.LtView
		counts bool
	}{
		{view(-6500, 0, 1, 0), true},        // 45 degrees up
		{view(-6499, 0, 1, 0), false},       // more
		{view(-13000, 0, -1, 0), false},     // behind
		{view(-13000, 0, 0, 1), false},      // beside
		{view(0, 0, 1, 0), false},           // above
		{view(-20000, -18914, 1, 0), true},  // 45 degrees off, or a little less
		{view(-20000, -18915, 1, 0), false}, // 45 degrees off, or a little more
		{view(-20000, 18914, 1, 0), true},
		{view(-20000, 18915, 1, 0), false},
	} {
		if y := veil(t, s, x.v); (y.Hi > 0) != x.counts || y != trueVeil(s, x.v) {
			t.Errorf("%v: %v", x.v, y)
		}
	}
	v := view(-13000, 0, 1, 0)
	for height, counts := range map[int]bool{15: false, 14: false, 1: false, 16: true} {
		s.Road.Columns[0].Height = height
		if y := veil(t, s, v); (y.Hi > 0) != counts {
			t.Errorf("height %d: %v", height, y)
		}
	}
	s = even()
	s.Lamps[0] = -1
	wantVeil(t, s, v, encl(0, 0), api.OK)
	s = even() // trees do not count
	s.Road.Trees = []api.RdTree{{X: -7000, Y: 0, R: 6999, Low: 0, High: 100}}
	wantVeil(t, s, v, encl(121, 305), api.OK)
}

// P4.4: a lamp that is hardly above the direction in which one looks counts as one at the least angle.
func TestVeilNear(t *testing.T) {
	s := even()
	s.Catalog.Lamps[0].Lumens = 100000
	for _, height := range []int{16, 18, 19, 20, 21, 40, 41, 42} { // 100 to 2700 above the eye, 100 m away
		s.Road.Columns[0].Height = height
		v := view(-100000, 0, 1, 0)
		wantVeil(t, s, v, trueVeil(s, v), api.OK)
	}
	s.Road.Columns[0].Height = 16
	// At most 40000 mcd, since the table says nothing more, from 100 m make at most 4 millilux; the tangent is 26 per mille.
	wantVeil(t, s, view(-100000, 0, 1, 0), encl(0, (4*1001353/676+1)*10000/3282+1), api.OK)
}

// P4.4
func TestVeilErrors(t *testing.T) {
	far := api.MaxRdPlace
	for _, v := range []api.LtView{view(far+1, 0, 1, 0), view(0, far+1, 1, 0), view(-far-1, 0, 1, 0), view(0, -far-1, 1, 0), view(math.MinInt, 0, 1, 0), view(0, math.MaxInt, 0, 0)} {
		wantVeil(t, street(), v, encl(0, 0), api.ErrRange)
	}
	for _, d := range badDirections() {
		wantVeil(t, street(), view(0, 0, d[0], d[1]), encl(0, 0), api.ErrArg)
	}
	wantVeil(t, street(), view(far, -far, 1000, -1000), encl(0, 0), api.OK)
}

// P4.4: against the definition.
func TestVeilsOfScenes(t *testing.T) {
	seen := 0
	someScenes(t, 3, 6000, func(r *rand.Rand, z size, s api.LtScene) {
		var v api.LtView
		v.X, v.Y = z.coordinate(r), z.coordinate(r)
		v.DX, v.DY = direction(r)
		x := trueVeil(s, v)
		wantVeil(t, s, v, x, api.OK)
		if x.Lo > 0 {
			seen++
		}
	})
	if seen < 500 {
		t.Errorf("only %d veils", seen)
	}
}
