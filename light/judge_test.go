package light_test

import (
	"math"
	"math/rand"
	"testing"

	"linkboy/api"
	"linkboy/light"
	"linkboy/road"
)

// anything returns a class that asks for nothing.
func anything(kind int) api.LtClass {
	return api.LtClass{Kind: kind, Glare: api.MaxGlare, Step: 4000, DX: 1, DY: 0}
}

func judge(t *testing.T, s api.LtScene, at int, c api.LtClass) api.LtResult {
	t.Helper()
	return must[api.LtResult](t)(light.Judge(s, at, c))
}

func accept(t *testing.T, s api.LtScene, at int, c api.LtClass) bool {
	t.Helper()
	return must[bool](t)(light.Accept(s, at, c))
}

// P4.5: a road that is worked out by hand.
func TestJudgeByHand(t *testing.T) {
	s := example()
	s.Road.Roads = []api.RdRoad{{Name: "short", Points: [][2]int{{-200, 50}, {0, 50}}, Width: 100}}
	patches, _ := road.Patches(s.Road, 0, 100)
	if len(patches) != 12 { // also those that touch the road
		t.Fatalf("%v", patches)
	}
	var total api.Encl
	least, worst := lux(t, s, patches[0]), 0
	for i, p := range patches {
		x := lux(t, s, p)
		total = plus(total, x)
		if x.Lo < least.Lo {
			least.Lo, worst = x.Lo, i
		}
		least.Hi = min(least.Hi, x.Hi)
	}
	c := anything(api.LtLux)
	c.Step = 100
	want := api.LtResult{Average: encl(down(12, total.Lo), up(12, total.Hi)), Least: least, Patches: 12, Worst: worst}
	want.Uniform = 1000 * least.Lo / want.Average.Hi
	if r := judge(t, s, 0, c); r != want || r.Uniform == 0 {
		t.Errorf("Judge = %+v, want %+v", r, want)
	}
}

// P4.5: no light at all, with which everything is as bad as it can be.
func TestJudgeDark(t *testing.T) {
	s := example()
	s.Lamps[0] = -1
	count := len(must[[]api.RdPatch](t)(road.Patches(s.Road, 0, 4000)))
	if r := judge(t, s, 0, anything(api.LtLux)); r != (api.LtResult{Patches: count}) {
		t.Errorf("%+v", r)
	}
	if r := judge(t, s, 0, anything(api.LtBright)); r != (api.LtResult{Patches: count, Glare: api.MaxGlare}) {
		t.Errorf("%+v", r)
	}
	c := anything(api.LtBright)
	if !accept(t, s, 0, c) {
		t.Errorf("not accepted")
	}
	c.Glare--
	if accept(t, s, 0, c) {
		t.Errorf("accepted")
	}
}

// P4.5: glare that is less than any, and more than any.
func TestGlare(t *testing.T) {
	s := even()
	s.Road.Roads[0].Points = [][2]int{{-13000, 0}, {-12900, 0}}
	s.Road.Roads[0].Width = 100
	c := anything(api.LtBright)
	r := judge(t, s, 0, c)
	if want := trueJudge(s, 0, c); r != want || r.Glare == 0 || r.Glare == api.MaxGlare {
		t.Errorf("%+v, want %+v", r, want)
	}
	s.Catalog.Tables[1].Values = [][]int{{1, 1}, {1, 1}} // black
	c.Step = 100
	if r := judge(t, s, 0, c); r.Glare != api.MaxGlare || r.Average.Lo == 0 && r.Average.Hi == 0 {
		t.Errorf("%+v", r)
	}
	s = even()
	c.DX, c.DY = -1, 0 // with the lamp behind
	s.Road.Roads[0].Points = [][2]int{{-8000, 0}, {-7900, 0}}
	s.Road.Roads[0].Width = 100
	if r := judge(t, s, 0, c); r.Glare != 0 || r.Average.Lo == 0 {
		t.Errorf("%+v", r)
	}
	c.Kind = api.LtLux
	c.DX = 1
	if r := judge(t, s, 0, c); r.Glare != 0 {
		t.Errorf("%+v", r)
	}
}

// P4.5: the eye is at the middle of a patch, rounded down: here a lamp is just 45 degrees above it, and 1 mm nearer it
// would not count.
func TestGlareAtTheMiddle(t *testing.T) {
	s := even()
	s.Road.Columns[0].X, s.Road.Columns[0].Y = 309, 0
	s.Road.Roads[0] = api.RdRoad{Name: "north", Points: [][2]int{{300, -6600}, {300, -6500}}, Width: 100}
	c := api.LtClass{Kind: api.LtBright, Step: 619, DX: 0, DY: 1} // one patch, from -6809 to -6190
	if r := judge(t, s, 0, c); r.Patches != 1 || r.Glare == 0 || r != trueJudge(s, 0, c) {
		t.Errorf("to the north: %+v", r)
	}
	s.Road.Columns[0].X, s.Road.Columns[0].Y = 0, 309
	s.Road.Roads[0] = api.RdRoad{Name: "east", Points: [][2]int{{-6600, 300}, {-6500, 300}}, Width: 100}
	c.DX, c.DY = 1, 0
	if r := judge(t, s, 0, c); r.Patches != 1 || r.Glare == 0 || r != trueJudge(s, 0, c) {
		t.Errorf("to the east: %+v", r)
	}
}

// P4.5: patches at the border of the range are cut; those outside are left out.
func TestCutPatches(t *testing.T) {
	far := api.MaxRdPlace
	s := turned(far-5000, far-5000, 0, 1)
	s.Road.Roads[0] = api.RdRoad{Name: "edge", Points: [][2]int{{far - 3000, far}, {far, far}}, Width: 9000}
	c := anything(api.LtBright)
	for _, c.Step = range []int{1000, 1500, 3000, 7000} {
		all := must[[]api.RdPatch](t)(road.Patches(s.Road, 0, c.Step))
		r, want := judge(t, s, 0, c), trueJudge(s, 0, c)
		if r != want || (r.Patches < len(all)) != (c.Step < 7000) {
			t.Errorf("step %d: %+v of %d patches, want %+v", c.Step, r, len(all), want)
		}
		for i, p := range s.Road.Roads[0].Points { // the opposite corner
			s.Road.Roads[0].Points[i] = [2]int{-p[0], -p[1]}
		}
		s.Road.Columns[0].X, s.Road.Columns[0].Y = -s.Road.Columns[0].X, -s.Road.Columns[0].Y
	}
}

// P4.5: errors, in their order: each class has all errors from one on.
func TestJudgeErrors(t *testing.T) {
	s := street()
	s.Surface = -1
	s.Road.Roads[0].Points[0] = [2]int{-100000, -100000}
	bad := func(t *testing.T, at int, c api.LtClass, want api.Errno) {
		t.Helper()
		if r, e := light.Judge(s, at, c); r != (api.LtResult{}) || e != want {
			t.Errorf("Judge(%d, %+v) = %+v, %d, want %d", at, c, r, e, want)
		}
		if is, e := light.Accept(s, at, c); is || e != want {
			t.Errorf("Accept(%d, %+v) = %v, %d, want %d", at, c, is, e, want)
		}
	}
	ranges := map[string]func(c *api.LtClass) *int{
		"average": func(c *api.LtClass) *int { return &c.Average },
		"least":   func(c *api.LtClass) *int { return &c.Least },
		"uniform": func(c *api.LtClass) *int { return &c.Uniform },
		"glare":   func(c *api.LtClass) *int { return &c.Glare },
		"step":    func(c *api.LtClass) *int { return &c.Step },
	}
	limits := map[string][2]int{"average": {0, 1000000000}, "least": {0, 1000000000}, "uniform": {0, 1000}, "glare": {0, 1000000}, "step": {100, 100000}}
	long := anything(api.LtBright)
	long.Step = 100
	bad(t, 0, long, api.ErrNone) // no surface
	for _, d := range badDirections() {
		long.DX, long.DY = d[0], d[1]
		bad(t, 0, long, api.ErrArg)
	}
	for name, of := range ranges {
		for _, n := range []int{limits[name][0] - 1, limits[name][1] + 1, math.MinInt, math.MaxInt} {
			c := long
			*of(&c) = n
			bad(t, 0, c, api.ErrRange)
			for _, c.Kind = range []int{0, 3, -1, math.MinInt, math.MaxInt} {
				bad(t, 0, c, api.ErrArg)
				for _, at := range []int{-1, 1, math.MinInt, math.MaxInt} {
					bad(t, at, c, api.ErrNone)
				}
			}
		}
		for _, n := range limits[name] { // numbers at the limits are good
			c := anything(api.LtLux)
			*of(&c) = n
			want := api.OK
			if c.Step == 100 {
				want = api.ErrLong // too many patches
			}
			if _, e := light.Judge(s, 0, c); e != want {
				t.Errorf("%s %d: %d", name, n, e)
			}
			if _, e := light.Accept(s, 0, c); e != want {
				t.Errorf("%s %d: %d", name, n, e)
			}
		}
	}
	long = anything(api.LtLux)
	long.Step = 100
	bad(t, 0, long, api.ErrLong)
	long.DX = 0
	bad(t, 0, long, api.ErrArg) // the direction is asked for with each kind
}

const maxAsked = 1000000000 // of the average and the least value of a class

// asFound returns the class that asks for just what a road has, as far as a class may.
func asFound(c api.LtClass, r api.LtResult) api.LtClass {
	c.Average, c.Least, c.Uniform, c.Glare = min(r.Average.Lo, maxAsked), min(r.Least.Lo, maxAsked), r.Uniform, r.Glare
	return c
}

// isAsked reports whether a class may ask for the numbers that this one asks for.
func isAsked(c api.LtClass) bool {
	return c.Average <= maxAsked && c.Least <= maxAsked && c.Uniform <= 1000 && c.Glare >= 0
}

// P4.5: against the definition, and what is accepted.
func TestJudgeScenes(t *testing.T) {
	lit := 0
	someScenes(t, 4, 800, func(r *rand.Rand, z size, s api.LtScene) {
		at, c := r.Intn(len(s.Road.Roads)), z.class(r)
		x, want := judge(t, s, at, c), trueJudge(s, at, c)
		if x != want {
			t.Errorf("%+v: Judge = %+v, want %+v", c, x, want)
		}
		if x.Uniform > 0 && (c.Kind == api.LtLux || x.Glare > 0 && x.Glare < api.MaxGlare) {
			lit++
		}
		c = asFound(c, x)
		if !accept(t, s, at, c) {
			t.Errorf("%+v: not accepted with %+v", c, x)
		}
		for _, more := range []api.LtClass{
			{Average: c.Average + 1, Least: c.Least, Uniform: c.Uniform, Glare: c.Glare}, {Average: c.Average, Least: c.Least + 1, Uniform: c.Uniform, Glare: c.Glare},
			{Average: c.Average, Least: c.Least, Uniform: c.Uniform + 1, Glare: c.Glare}, {Average: c.Average, Least: c.Least, Uniform: c.Uniform, Glare: c.Glare - 1},
		} {
			more.Kind, more.Step, more.DX, more.DY = c.Kind, c.Step, c.DX, c.DY
			if isAsked(more) && accept(t, s, at, more) {
				t.Errorf("%+v: accepted with %+v", more, x)
			}
		}
	})
	if lit < 100 {
		t.Errorf("only %d roads are lit", lit)
	}
}
