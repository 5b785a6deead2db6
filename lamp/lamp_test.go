package lamp_test

import (
	"math"
	"math/rand"
	"testing"

	"linkboy/api"
	"linkboy/lamp"
)

func use(hours, months, level int) api.LmUse {
	return api.LmUse{Hours: hours, Months: months, Level: level}
}

// P2.6: the examples, and shares below 0.
func TestFluxExamples(t *testing.T) {
	for _, x := range []struct {
		u    api.LmUse
		want api.Encl
	}{
		{use(10000, 6, 1000), encl(7449, 7699)},
		{use(10000, 6, 500), encl(3724, 3850)},
		{use(0, 0, 1000), encl(8000, 8000)},
		{use(0, 0, 0), encl(0, 0)},
		{use(0, 0, 1), encl(8, 8)},
		{use(1, 0, 1000), encl(7999, 8000)},
		{use(1, 0, 500), encl(3999, 4000)},
		{use(0, 200, 1000), encl(0, 3200)},
		{use(0, 600, 1000), encl(0, 0)},
		{use(200000, 0, 1000), encl(1600, 4800)},
		{use(200000, 600, 1000), encl(0, 0)},
	} {
		f, e := lamp.Flux(example(), 0, x.u)
		if f != x.want || e != api.OK {
			t.Errorf("Flux after %v: %v, %d, want %v", x.u, f, e, x.want)
		}
	}
	c := example()
	c.Lamps[0].Ageing, c.Lamps[0].Dirt = encl(4, 6), encl(0, 0)
	if f, e := lamp.Flux(c, 0, use(200000, 0, 1000)); f != encl(0, 1600) || e != api.OK {
		t.Errorf("Flux without a share that is below 0: %v, %d", f, e)
	}
	c.Lamps[0].Ageing, c.Lamps[0].Dirt = encl(6, 6), encl(1000, 1000)
	if f, e := lamp.Flux(c, 0, use(200000, 600, 1000)); f != encl(0, 0) || e != api.OK {
		t.Errorf("Flux of two shares that are below 0: %v, %d", f, e)
	}
}

// P2.6: the examples, of a lamp of 1 lumen, or milliwatt, too.
func TestPowerExamples(t *testing.T) {
	for level, want := range map[int]api.Encl{1000: encl(57000, 63000), 500: encl(28737, 31763), 0: encl(475, 525), 1: encl(531, 588)} {
		if p, e := lamp.Power(example(), 0, level); p != want || e != api.OK {
			t.Errorf("Power at %d: %v, %d, want %v", level, p, e, want)
		}
	}
	c := example()
	c.Lamps[0].Tolerance = 1000
	if p, e := lamp.Power(c, 0, 1000); p != encl(0, 120000) || e != api.OK {
		t.Errorf("Power = %v, %d", p, e)
	}
	// The power itself is not rounded, so that without tolerance only the result is.
	c.Lamps[0].Power, c.Lamps[0].Standing, c.Lamps[0].Tolerance = 3, 0, 0
	for level, want := range map[int]api.Encl{0: encl(0, 0), 1: encl(0, 1), 333: encl(0, 1), 334: encl(1, 2), 1000: encl(3, 3)} {
		if p, e := lamp.Power(c, 0, level); p != want || e != api.OK {
			t.Errorf("Power of 3 at %d: %v, %d, want %v", level, p, e, want)
		}
	}
	c.Lamps[0].Tolerance = 500
	if p, e := lamp.Power(c, 0, 500); p != encl(0, 3) || e != api.OK { // from 0.75 to 2.25
		t.Errorf("Power of 3 at 500: %v, %d", p, e)
	}
}

// P2.6: the examples, and a lamp that can be dimmed to 0, or not at all.
func TestLevelExamples(t *testing.T) {
	c := example()
	c.Lamps = append(c.Lamps, exampleLamp("soft"), exampleLamp("stiff"))
	c.Lamps[1].Dim, c.Lamps[2].Dim = 0, 1000
	for _, x := range []struct{ want, head, soft, stiff int }{
		{100, 200, 100, 1000}, {0, 0, 0, 0}, {700, 700, 700, 1000}, {2000, 1000, 1000, 1000},
		{1, 200, 1, 1000}, {-1, 0, 0, 0}, {199, 200, 199, 1000}, {200, 200, 200, 1000}, {201, 201, 201, 1000}, {999, 999, 999, 1000}, {1000, 1000, 1000, 1000},
		{math.MinInt, 0, 0, 0}, {math.MaxInt, 1000, 1000, 1000},
	} {
		for at, level := range []int{x.head, x.soft, x.stiff} {
			if got, e := lamp.Level(c, at, x.want); got != level || e != api.OK {
				t.Errorf("Level of %d for %d: %d, %d, want %d", at, x.want, got, e, level)
			}
		}
	}
}

// P2.7: the example, and roundings of both ends.
func TestTowardsExamples(t *testing.T) {
	c := example()
	if i, e := lamp.Towards(c, 0, use(10000, 6, 1000), rect(-4000, 4000, 0, 8000), 8000); i != encl(2234, 4620) || e != api.OK {
		t.Errorf("Towards = %v, %d", i, e)
	}
	if i, e := lamp.Towards(c, 0, use(0, 0, 1000), rect(0, 0, 0, 0), 8000); i != encl(3200, 3200) || e != api.OK {
		t.Errorf("Towards straight down = %v, %d", i, e)
	}
	if i, e := lamp.Towards(c, 0, use(0, 0, 1000), rect(0, 0, 8001, 8001), 8000); i != encl(0, 400) || e != api.OK {
		t.Errorf("Towards the side = %v, %d", i, e)
	}
	c.Tables = append(c.Tables, exampleTable("other"))
	c.Tables[1].Values[1] = []int{1, 1}
	c.Lamps[0].Table, c.Lamps[0].Lumens = 1, 1001
	if i, e := lamp.Towards(c, 0, use(0, 0, 1000), rect(0, 0, 0, 0), 8000); i != encl(1, 2) || e != api.OK {
		t.Errorf("Towards of the other table = %v, %d", i, e)
	}
	if i, e := lamp.Towards(most(), 0, use(0, 0, 1000), rect(-50, -50, 50, 50), 10); i != encl(1e10, 1e10) || e != api.OK {
		t.Errorf("Towards with the greatest numbers = %v, %d", i, e)
	}
}

// P2.6, P2.7: compared to fractions.
func TestLampsAreTrue(t *testing.T) {
	r := rand.New(rand.NewSource(9))
	for range 1500 {
		c := someCatalog(r)
		at, u, level := r.Intn(len(c.Lamps)), someUse(r), edged(r, 0, 1000)
		l := c.Lamps[at]
		f, e := lamp.Flux(checked(t, c), at, u)
		if want := trueFlux(l, u); must(t, f, e) != want {
			t.Fatalf("Flux of %v after %v: %v, want %v", l, u, f, want)
		}
		p, e := lamp.Power(c, at, level)
		if want := truePower(l, level); must(t, p, e) != want {
			t.Fatalf("Power of %v at %d: %v, want %v", l, level, p, want)
		}
		h := someHeight(r)
		rect := someRect(r, c.Tables[l.Table], h)
		i, e := lamp.Towards(c, at, u, rect, h)
		o := trueOver(c.Tables[l.Table], rect, h)
		if want := encl(floor(fraction(o.Lo*f.Lo, 1000)), ceil(fraction(o.Hi*f.Hi, 1000))); must(t, i, e) != want {
			t.Fatalf("Towards of %v after %v, %v, h %d: %v, want %v", l, u, rect, h, i, want)
		}
	}
}

// P2.6, P2.7
func TestLampErrors(t *testing.T) {
	c := two()
	good := use(0, 0, 0)
	for _, at := range []int{-1, 2, math.MinInt, math.MaxInt} {
		if f, e := lamp.Flux(c, at, use(-1, 0, 0)); f != encl(0, 0) || e != api.ErrNone {
			t.Errorf("Flux of %d: %v, %d", at, f, e)
		}
		if p, e := lamp.Power(c, at, -1); p != encl(0, 0) || e != api.ErrNone {
			t.Errorf("Power of %d: %v, %d", at, p, e)
		}
		if n, e := lamp.Level(c, at, 500); n != 0 || e != api.ErrNone {
			t.Errorf("Level of %d: %d, %d", at, n, e)
		}
		if n, e := lamp.Level(c, at, 0); n != 0 || e != api.ErrNone {
			t.Errorf("Level of %d: %d, %d", at, n, e)
		}
		if i, e := lamp.Towards(c, at, use(-1, 0, 0), rect(1, 0, 0, 0), 1); i != encl(0, 0) || e != api.ErrNone {
			t.Errorf("Towards of %d: %v, %d", at, i, e)
		}
	}
	for _, u := range []api.LmUse{
		use(-1, 0, 0), use(api.MaxHours+1, 0, 0), use(0, -1, 0), use(0, api.MaxMonths+1, 0), use(0, 0, -1), use(0, 0, 1001),
		use(math.MinInt, 0, 0), use(0, math.MaxInt, 0), use(0, 0, math.MinInt),
	} {
		if f, e := lamp.Flux(c, 1, u); f != encl(0, 0) || e != api.ErrRange {
			t.Errorf("Flux after %v: %v, %d", u, f, e)
		}
		if i, e := lamp.Towards(c, 1, u, rect(1, 0, 0, 0), 1); i != encl(0, 0) || e != api.ErrRange {
			t.Errorf("Towards after %v: %v, %d", u, i, e)
		}
	}
	for _, level := range []int{-1, 1001, math.MinInt, math.MaxInt} {
		if p, e := lamp.Power(c, 1, level); p != encl(0, 0) || e != api.ErrRange {
			t.Errorf("Power at %d: %v, %d", level, p, e)
		}
	}
	for _, x := range []struct {
		r api.LmRect
		h int
		e api.Errno
	}{
		{rect(1, 0, 0, 0), 1, api.ErrArg}, {rect(0, 0, 1, 0), 1, api.ErrArg}, {rect(1, 0, 0, 0), 0, api.ErrRange},
		{rect(0, 0, 0, 0), api.MaxLmHeight + 1, api.ErrRange}, {rect(0, api.MaxOffset+1, 1, 0), 1, api.ErrRange},
	} {
		if i, e := lamp.Towards(c, 1, good, x.r, x.h); i != encl(0, 0) || e != x.e {
			t.Errorf("Towards %v, h %d: %v, %d, want %d", x.r, x.h, i, e, x.e)
		}
	}
}

// noGreater reports whether no end of x is greater than that of y.
func noGreater(x, y api.Encl) bool { return x.Lo <= y.Lo && x.Hi <= y.Hi }

// P2.12
func TestAge(t *testing.T) {
	r := rand.New(rand.NewSource(10))
	for range 1500 {
		c := someCatalog(r)
		at, u := r.Intn(len(c.Lamps)), someUse(r)
		older := use(edged(r, u.Hours, api.MaxHours), edged(r, u.Months, api.MaxMonths), edged(r, 0, u.Level))
		f, e := lamp.Flux(c, at, u)
		must(t, f, e)
		g, e := lamp.Flux(c, at, older)
		if must(t, g, e); !noGreater(g, f) || f.Lo > f.Hi || g.Lo < 0 {
			t.Fatalf("Flux of %v: %v after %v, but %v after %v", c.Lamps[at], f, u, g, older)
		}
		h := someHeight(r)
		rect := someRect(r, c.Tables[c.Lamps[at].Table], h)
		i, e := lamp.Towards(c, at, u, rect, h)
		must(t, i, e)
		k, e := lamp.Towards(c, at, older, rect, h)
		if must(t, k, e); !noGreater(k, i) {
			t.Fatalf("Towards of %v: %v after %v, but %v after %v", c.Lamps[at], i, u, k, older)
		}
	}
}

// P2.12
func TestMoreLevel(t *testing.T) {
	r := rand.New(rand.NewSource(11))
	for range 1000 {
		c := someCatalog(r)
		at, level := r.Intn(len(c.Lamps)), edged(r, 0, 1000)
		p, e := lamp.Power(c, at, level)
		must(t, p, e)
		q, e := lamp.Power(c, at, edged(r, level, 1000))
		if must(t, q, e); !noGreater(p, q) {
			t.Fatalf("Power of %v: %v at %d, but %v above it", c.Lamps[at], p, level, q)
		}
		once, e := lamp.Level(c, at, from(r, -100, 1200))
		again, f := lamp.Level(c, at, once)
		if once != again || once < 0 || once > 1000 || e != api.OK || f != api.OK {
			t.Fatalf("Level of %v: %d, and then %d", c.Lamps[at], once, again)
		}
	}
}
