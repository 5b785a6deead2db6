package light_test

import (
	"math"
	"math/rand"
	"testing"

	"linkboy/api"
	"linkboy/light"
)

func wantFrame(t *testing.T, s api.LtScene, column int, p api.RdPatch, want api.LmRect, e api.Errno) {
	t.Helper()
	if r, f := light.Frame(s, column, p); r != want || f != e {
		t.Errorf("Frame(%d, %v) = %v, %d, want %v, %d", column, p, r, f, want, e)
	}
}

func wantLux(t *testing.T, s api.LtScene, p api.RdPatch, want api.Encl, e api.Errno) {
	t.Helper()
	if x, f := light.Lux(s, p); x != want || f != e {
		t.Errorf("Lux(%v) = %v, %d, want %v, %d", p, x, f, want, e)
	}
}

func wantBright(t *testing.T, s api.LtScene, p api.RdPatch, dx, dy int, want api.Encl, e api.Errno) {
	t.Helper()
	if x, f := light.Bright(s, p, dx, dy); x != want || f != e {
		t.Errorf("Bright(%v, %d, %d) = %v, %d, want %v, %d", p, dx, dy, x, f, want, e)
	}
}

// P4.2, P4.3, P4.6: the chapter's examples.
func TestExamples(t *testing.T) {
	s := example()
	wantFrame(t, s, 0, patch(-4000, 0, 4000, 8000), rect(-4000, 4000, 0, 8000), api.OK)
	wantLux(t, s, spot(0, 0), encl(50, 50), api.OK)
	wantLux(t, s, spot(-4000, 0), encl(26, 27), api.OK)
	wantLux(t, s, patch(-4000, 0, 4000, 8000), encl(11, 75), api.OK)
	wantBright(t, s, spot(0, 0), 0, 1, encl(3500, 3500), api.OK)
	if n, e := light.Sky(s); n != 40 || e != api.OK {
		t.Errorf("Sky = %d, %d", n, e)
	}
	if x, e := light.Power(s); x != encl(57000, 63000) || e != api.OK {
		t.Errorf("Power = %v, %d", x, e)
	}
}

// turned returns the scene of the examples with the column somewhere, and turned.
func turned(x, y, dx, dy int) api.LtScene {
	s := example()
	c := &s.Road.Columns[0]
	c.X, c.Y, c.DX, c.DY = x, y, dx, dy
	return s
}

// P4.2: across is to the right of the heading; what is not exact is rounded outwards.
func TestFrame(t *testing.T) {
	for _, x := range []struct {
		s    api.LtScene
		p    api.RdPatch
		want api.LmRect
	}{
		{turned(0, 0, 0, 1), spot(3, 7), rect(3, 3, 7, 7)},
		{turned(0, 0, 1, 0), spot(3, 7), rect(-7, -7, 3, 3)},
		{turned(0, 0, 0, -1), spot(3, 7), rect(-3, -3, -7, -7)},
		{turned(0, 0, -1000, 0), spot(3, 7), rect(7, 7, -3, -3)},
		{turned(10, 20, 0, 5), patch(13, 27, 14, 29), rect(3, 4, 7, 9)},
		{turned(0, 0, 3, 4), spot(300, 400), rect(0, 0, 500, 500)},
		{turned(0, 0, 3, 4), spot(400, -300), rect(500, 500, 0, 0)},
		{turned(0, 0, 1, 1), spot(1000, 0), rect(706, 708, 706, 708)},
		{turned(0, 0, 1, 1), spot(-1000, 0), rect(-708, -706, -708, -706)},
		{turned(0, 0, 1, 1), patch(-1000, -1000, 1000, 1000), rect(-1415, 1415, -1415, 1415)},
		{turned(0, 0, 1, 1), spot(0, 0), rect(0, 0, 0, 0)},
		// The root of 2000000 is from 1414 to 1415: whether it makes a number less depends on the sign.
		{turned(0, 0, 1, 1), patch(0, 50000, 0, 50000), rect(-35361, -35335, 35335, 35361)},
		{turned(0, 0, -1, -1), patch(0, 50000, 0, 50000), rect(35335, 35361, -35361, -35335)},
		// Offsets beyond the limit.
		{turned(-100000, -100000, 0, 1), spot(100000, 100000), rect(200000, 200000, 200000, 200000)},
		{turned(-100000, -100000, 1, 1), spot(100000, 100000), rect(0, 0, 200000, 200000)},
		{turned(100000, 100000, 1, 1), spot(-100000, -100000), rect(0, 0, -200000, -200000)},
		{turned(-100000, 100000, 1, 1), patch(0, -100000, 100000, -100000), rect(200000, 200000, -70722, 0)},
		{turned(100000, -100000, 1, 1), patch(-100000, 0, -100000, 100000), rect(-200000, -200000, -70722, 0)},
	} {
		wantFrame(t, x.s, 0, x.p, x.want, api.OK)
	}
}

// P4.2: against the definition.
func TestFramesOfScenes(t *testing.T) {
	someScenes(t, 1, 2000, func(r *rand.Rand, z size, s api.LtScene) {
		at, p := r.Intn(len(s.Road.Columns)), z.patch(r)
		wantFrame(t, s, at, p, frameFrom(s.Road.Columns[at], p), api.OK)
	})
}

// badPatches are no patches.
func badPatches() []api.RdPatch {
	far := api.MaxRdPlace
	return []api.RdPatch{
		patch(1, 0, 0, 0), patch(0, 1, 0, 0), patch(-far-1, 0, 0, 0), patch(0, -far-1, 0, 0), patch(0, 0, far+1, 0), patch(0, 0, 0, far+1),
		patch(far+1, 0, far+1, 0), patch(math.MinInt, 0, math.MaxInt, 0), patch(0, math.MinInt, 0, math.MinInt), patch(math.MaxInt, 0, math.MinInt, 0),
	}
}

// P4.2, P4.3
func TestBadPatches(t *testing.T) {
	for _, p := range badPatches() {
		wantFrame(t, street(), 0, p, rect(0, 0, 0, 0), api.ErrRange)
		wantFrame(t, street(), 2, p, rect(0, 0, 0, 0), api.ErrNone)
		wantLux(t, street(), p, encl(0, 0), api.ErrRange)
		wantBright(t, street(), p, 1, 0, encl(0, 0), api.ErrRange)
		wantBright(t, street(), p, 0, 0, encl(0, 0), api.ErrRange)
	}
	all := patch(-api.MaxRdPlace, -api.MaxRdPlace, api.MaxRdPlace, api.MaxRdPlace)
	for _, at := range []int{-1, 2, math.MinInt, math.MaxInt} {
		wantFrame(t, street(), at, all, rect(0, 0, 0, 0), api.ErrNone)
	}
	wantFrame(t, example(), 0, all, rect(-100000, 100000, -100000, 100000), api.OK)
	wantLux(t, example(), all, trueLux(example(), all), api.OK)
}

// badDirections are no directions.
func badDirections() [][2]int {
	return [][2]int{{0, 0}, {1001, 0}, {0, 1001}, {-1001, 1}, {1, -1001}, {math.MinInt, 0}, {0, math.MaxInt}, {math.MaxInt, math.MinInt}}
}

// P4.3
func TestBrightErrors(t *testing.T) {
	bare := street()
	bare.Surface = -1
	for _, d := range badDirections() {
		wantBright(t, street(), spot(0, 0), d[0], d[1], encl(0, 0), api.ErrArg)
		wantBright(t, bare, spot(0, 0), d[0], d[1], encl(0, 0), api.ErrArg)
	}
	wantBright(t, bare, spot(0, 0), 1000, -1000, encl(0, 0), api.ErrNone)
	wantBright(t, bare, patch(1, 0, 0, 0), 1, 0, encl(0, 0), api.ErrRange)
	if x, e := light.Lux(bare, spot(0, 0)); e != api.OK || x.Lo == 0 {
		t.Errorf("Lux without a surface = %v, %d", x, e)
	}
}

// P4.2, P4.3: a column without a lamp, one in a shadow, and one in half of it.
func TestShadows(t *testing.T) {
	s := street()
	s.Catalog = even().Catalog
	s.Lamps[0] = -1
	dark, part, lit := patch(3900, 2000, 4100, 2500), patch(3900, 3900, 4100, 4100), patch(8000, 0, 9000, 1000)
	wantLux(t, s, dark, encl(0, 0), api.OK)
	wantBright(t, s, dark, 1, 0, encl(0, 0), api.OK)
	bare := s
	bare.Road.Trees = nil
	for _, p := range []api.RdPatch{dark, part, lit} {
		if x, y := lux(t, bare, p), bright(t, bare, p, 1, 0); x.Lo == 0 || y.Lo == 0 {
			t.Errorf("without the tree %v has %v, %v", p, x, y)
		}
	}
	wantLux(t, s, part, encl(0, lux(t, bare, part).Hi), api.OK)
	wantBright(t, s, part, 1, 0, encl(0, bright(t, bare, part, 1, 0).Hi), api.OK)
	wantLux(t, s, lit, lux(t, bare, lit), api.OK)
	wantBright(t, s, lit, 1, 0, bright(t, bare, lit, 1, 0), api.OK)
	s.Lamps[1] = -1
	wantLux(t, s, lit, encl(0, 0), api.OK)
	wantBright(t, s, lit, 1, 0, encl(0, 0), api.OK)
}

// P4.3: how the surface reflects depends on the direction to the place of the column, seen along the one in which one looks.
func TestSurface(t *testing.T) {
	s := example()
	s.Catalog.Tables[1].Values = [][]int{{0, 0}, {10000, 10000}} // less on the left, more on the right
	onRight, onLeft := bright(t, s, spot(-4000, 0), 0, 1), bright(t, s, spot(4000, 0), 0, 1)
	// The lamp is 4 m beside a point, 8 m high: a tangent of 500, so 5500 and 4500 of 10000 parts.
	if want := encl(100*(1000*2400*5500/64000000), 100*(1000*2400*5500/64000000+1)); onRight != want {
		t.Errorf("a lamp on the right: %v, want %v", onRight, want)
	}
	if want := encl(100*(1000*2400*4500/64000000), 100*(1000*2400*4500/64000000+1)); s.Catalog.Tables[0].Values[2][0] != 0 || onLeft == want {
		t.Errorf("a lamp on the left: %v", onLeft)
	}
	if x, y := bright(t, s, spot(-4000, 0), 0, -1), onRight; x.Hi >= y.Lo {
		t.Errorf("seen from the other side: %v and %v", x, y)
	}
	s.Catalog.Tables[1].Values = [][]int{{0, 10000}, {0, 10000}} // more ahead
	if x, y := bright(t, s, spot(0, -4000), 0, 1), bright(t, s, spot(0, -4000), 0, -1); x.Lo <= y.Hi {
		t.Errorf("a lamp ahead makes %v, and behind %v", x, y)
	}
}

// P4.2, P4.3: against the definition.
func TestLightOfScenes(t *testing.T) {
	lit := 0
	someScenes(t, 2, 3000, func(r *rand.Rand, z size, s api.LtScene) {
		p := z.patch(r)
		dx, dy := direction(r)
		x, b := trueLux(s, p), trueBright(s, p, dx, dy)
		wantLux(t, s, p, x, api.OK)
		wantBright(t, s, p, dx, dy, b, api.OK)
		if x.Lo > 0 && b.Lo > 0 {
			lit++
		}
	})
	if lit < 500 {
		t.Errorf("only %d patches are lit", lit)
	}
}
