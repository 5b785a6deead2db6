package angle_test

import (
	"math"
	"math/rand"
	"testing"

	"linkboy/angle"
	"linkboy/api"
)

const (
	degree = api.Degree
	one    = api.One
	most   = api.MaxValue
)

func encl(lo, hi int) api.Encl { return api.Encl{Lo: lo, Hi: hi} }

func point(n int) api.Encl { return encl(n, n) }

func contains(x api.Encl, n int) bool { return x.Lo <= n && n <= x.Hi }

func inside(x, whole api.Encl) bool { return whole.Lo <= x.Lo && x.Hi <= whole.Hi }

func meet(x, y api.Encl) bool { return x.Lo <= y.Hi && y.Lo <= x.Hi }

// between returns an integer from lo to hi.
func between(r *rand.Rand, lo, hi int) int { return lo + r.Intn(hi-lo+1) }

// enclosureIn returns an enclosure from lo to hi.
func enclosureIn(r *rand.Rand, lo, hi int) api.Encl {
	a, b := between(r, lo, hi), between(r, lo, hi)
	return encl(min(a, b), max(a, b))
}

// must returns x, and fails if there is an error.
func must(t *testing.T, x api.Encl, e api.Errno) api.Encl {
	t.Helper()
	if e != api.OK {
		t.Errorf("error %d", e)
	}
	return x
}

func sin(t *testing.T, a int) api.Encl {
	t.Helper()
	x, e := angle.Sin(a)
	return must(t, x, e)
}

func cos(t *testing.T, a int) api.Encl {
	t.Helper()
	x, e := angle.Cos(a)
	return must(t, x, e)
}

// someAngles returns angles of all sizes, and those around the multiples of 15 degrees.
func someAngles(r *rand.Rand, n int) []int {
	var l []int
	for a := -api.MaxAngle; a <= api.MaxAngle; a += 15 * degree {
		l = append(l, a)
		if a < api.MaxAngle {
			l = append(l, a+1, a+15*degree-1)
		}
	}
	for range n {
		l = append(l, between(r, -api.MaxAngle, api.MaxAngle), between(r, -1000, 1000))
	}
	return l
}

// P1.1
func TestSinAndCosAreLeast(t *testing.T) {
	for _, a := range someAngles(rand.New(rand.NewSource(1)), 1000) {
		if s, want := sin(t, a), trueSine(a); s != want {
			t.Errorf("Sin(%d) = %v, want %v", a, s, want)
		}
		if c, want := cos(t, a), trueSine(a+90*degree); c != want {
			t.Errorf("Cos(%d) = %v, want %v", a, c, want)
		}
	}
}

// P1.1: those nearest to an integer, where rounding is hardest (see TestMargin).
func TestSinNearIntegers(t *testing.T) {
	for _, a := range []int{25601556, 83097305, 7915146, 14825876, 8119760, 1, 89999999, 30*degree - 1, 30*degree + 1} {
		if s, want := sin(t, a), trueSine(a); s != want {
			t.Errorf("Sin(%d) = %v, want %v", a, s, want)
		}
	}
}

// P1.1
func TestSinAndCosOfNoAngle(t *testing.T) {
	for _, a := range []int{api.MaxAngle + 1, -api.MaxAngle - 1, math.MaxInt, math.MinInt, math.MaxInt - 90*degree} {
		if s, e := angle.Sin(a); s != encl(0, 0) || e != api.ErrRange {
			t.Errorf("Sin(%d) = %v, %d", a, s, e)
		}
		if c, e := angle.Cos(a); c != encl(0, 0) || e != api.ErrRange {
			t.Errorf("Cos(%d) = %v, %d", a, c, e)
		}
	}
	for _, a := range []int{api.MaxAngle, -api.MaxAngle} {
		if s, c := sin(t, a), cos(t, a); s != point(0) || c != point(one) {
			t.Errorf("Sin, Cos(%d) = %v, %v", a, s, c)
		}
	}
}

// P1.1, P1.2: the examples.
func TestSineExamples(t *testing.T) {
	for _, c := range []struct {
		a         int
		sin, want api.Encl
	}{
		{30 * degree, sin(t, 30*degree), point(50000000)},
		{45 * degree, sin(t, 45*degree), encl(70710678, 70710679)},
		{-90 * degree, sin(t, -90*degree), point(-one)},
		{60 * degree, cos(t, 60*degree), point(50000000)},
		{degree, cos(t, degree), encl(99984769, 99984770)},
		{450 * degree, cos(t, 450*degree), point(0)},
	} {
		if c.sin != c.want {
			t.Errorf("of %d: %v, want %v", c.a, c.sin, c.want)
		}
	}
	for _, c := range []struct {
		do      unary
		a, want api.Encl
	}{
		{angle.SinOf, encl(45*degree, 135*degree), encl(70710678, one)},
		{angle.SinOf, encl(0, 30*degree), encl(0, 50000000)},
		{angle.SinOf, encl(90*degree+1, 269999999), encl(-one, one)},
		{angle.SinOf, encl(91*degree, 269*degree), encl(-99984770, 99984770)},
		{angle.SinOf, encl(90*degree, 91*degree), encl(99984769, one)},
		{angle.SinOf, encl(89*degree, 90*degree), encl(99984769, one)},
		{angle.SinOf, encl(-90*degree, -89*degree), encl(-one, -99984769)},
		{angle.SinOf, encl(-91*degree, -90*degree), encl(-one, -99984769)},
		{angle.SinOf, encl(-api.MaxAngle, api.MaxAngle), encl(-one, one)},
		{angle.CosOf, encl(-60*degree, 30*degree), encl(50000000, one)},
		{angle.CosOf, encl(179*degree, 181*degree), encl(-one, -99984769)},
		{angle.CosOf, encl(3599*degree, 3600*degree), encl(99984769, one)},
		{angle.CosOf, encl(1*degree, 359*degree), encl(-one, 99984770)},
	} {
		if s, e := c.do(c.a); s != c.want || e != api.OK {
			t.Errorf("of %v: %v, %d, want %v", c.a, s, e, c.want)
		}
	}
}

// P1.2
func TestSinOfAndCosOfErrors(t *testing.T) {
	for _, a := range []api.Encl{encl(1, 0), encl(0, api.MaxAngle+1), encl(-api.MaxAngle-1, 0), encl(api.MaxAngle+1, api.MaxAngle+2), encl(math.MinInt, math.MaxInt), encl(math.MaxInt, math.MinInt)} {
		for _, name := range []string{"SinOf", "CosOf"} {
			if s, e := unaries[name](a); s != encl(0, 0) || e != api.ErrRange {
				t.Errorf("%s(%v) = %v, %d", name, a, s, e)
			}
		}
	}
}

// hullOfSines returns the least enclosure of the sines of a, by looking at its ends and at all right angles in it.
func hullOfSines(t *testing.T, a api.Encl, sine func(*testing.T, int) api.Encl) api.Encl {
	h, hi := sine(t, a.Lo), sine(t, a.Hi)
	h = encl(min(h.Lo, hi.Lo), max(h.Hi, hi.Hi))
	for b := -api.MaxAngle; b <= api.MaxAngle; b += 90 * degree {
		if contains(a, b) {
			s := sine(t, b)
			h = encl(min(h.Lo, s.Lo), max(h.Hi, s.Hi))
		}
	}
	return h
}

// P1.2, P1.8
func TestSinOfAndCosOfAreLeast(t *testing.T) {
	r := rand.New(rand.NewSource(2))
	for i := range 3000 {
		a := enclosureIn(r, -api.MaxAngle, api.MaxAngle)
		if i%2 == 0 {
			a.Hi = min(a.Lo+between(r, 0, 400*degree), api.MaxAngle)
		}
		s, e := angle.SinOf(a)
		if want := hullOfSines(t, a, sin); must(t, s, e) != want {
			t.Errorf("SinOf(%v) = %v, want %v", a, s, want)
		}
		c, e := angle.CosOf(a)
		if want := hullOfSines(t, a, cos); must(t, c, e) != want {
			t.Errorf("CosOf(%v) = %v, want %v", a, c, want)
		}
		if b := between(r, a.Lo, a.Hi); !inside(sin(t, b), s) || !inside(cos(t, b), c) {
			t.Errorf("SinOf, CosOf(%v) = %v, %v do not enclose those of %d", a, s, c, b)
		}
	}
}

// P1.7
func TestCircle(t *testing.T) {
	r := rand.New(rand.NewSource(3))
	l := someAngles(r, 500)
	for _, a := range l {
		s, c := sin(t, a), cos(t, a)
		if s.Hi-s.Lo > 1 || s.Hi < s.Lo || c.Hi-c.Lo > 1 || c.Hi < c.Lo {
			t.Errorf("Sin, Cos(%d) = %v, %v are too wide", a, s, c)
		}
		if sum := sumOfProducts(t, s, s, c, c); !contains(sum, one) {
			t.Errorf("the squares of Sin and Cos of %d add up to %v", a, sum)
		}
		if b := a + 360*degree; b <= api.MaxAngle && (sin(t, b) != s || cos(t, b) != c) {
			t.Errorf("Sin, Cos(%d) are other ones after a turn", a)
		}
		if b := a + 90*degree; b <= api.MaxAngle && sin(t, b) != c {
			t.Errorf("Cos(%d) is not the Sin of it and a right angle", a)
		}
		b := l[r.Intn(len(l))]
		if a+b < -api.MaxAngle || a+b > api.MaxAngle {
			continue
		}
		if sum := sumOfProducts(t, s, cos(t, b), c, sin(t, b)); !meet(sum, sin(t, a+b)) {
			t.Errorf("Sin(%d + %d) = %v, but by products %v", a, b, sin(t, a+b), sum)
		}
	}
}

// sumOfProducts returns u v + x y.
func sumOfProducts(t *testing.T, u, v, x, y api.Encl) api.Encl {
	t.Helper()
	p, e := angle.Times(u, v)
	must(t, p, e)
	q, e := angle.Times(x, y)
	must(t, q, e)
	s, e := angle.Plus(p, q)
	return must(t, s, e)
}

// P1.3: the examples and the ends.
func TestArcExamples(t *testing.T) {
	for _, c := range []struct{ x, cos, sin api.Encl }{
		{encl(50000000, one), encl(0, 60*degree), encl(30*degree, 90*degree)},
		{point(70710678), encl(45000000, 45000001), encl(44999999, 45000000)},
		{point(-50000000), point(120 * degree), point(-30 * degree)},
		{point(-one), point(180 * degree), point(-90 * degree)},
		{point(one), point(0), point(90 * degree)},
		{point(0), point(90 * degree), point(0)},
		{encl(-one, one), encl(0, 180*degree), encl(-90*degree, 90*degree)},
		{point(one - 1), encl(8102, 8103), encl(89991897, 89991898)},
		{point(1), encl(89999999, 90000000), encl(0, 1)},
		{point(-1), encl(90000000, 90000001), encl(-1, 0)},
	} {
		if a, e := angle.Arccos(c.x); a != c.cos || e != api.OK {
			t.Errorf("Arccos(%v) = %v, %d, want %v", c.x, a, e, c.cos)
		}
		if a, e := angle.Arcsin(c.x); a != c.sin || e != api.OK {
			t.Errorf("Arcsin(%v) = %v, %d, want %v", c.x, a, e, c.sin)
		}
	}
}

// P1.3
func TestArcErrors(t *testing.T) {
	for _, x := range []api.Encl{encl(1, 0), encl(0, one+1), encl(-one-1, 0), encl(one, -one), encl(math.MinInt, math.MaxInt), encl(math.MaxInt, math.MaxInt), encl(math.MinInt, math.MinInt)} {
		for _, name := range []string{"Arccos", "Arcsin"} {
			if a, e := unaries[name](x); a != encl(0, 0) || e != api.ErrRange {
				t.Errorf("%s(%v) = %v, %d", name, x, a, e)
			}
		}
	}
}

// P1.3: no greater Lo is below all the angles, and no lesser Hi above them, as exact sines say.
func TestArcsAreLeast(t *testing.T) {
	r := rand.New(rand.NewSource(4))
	for i := range 2000 {
		x := enclosureIn(r, -one, one)
		if i%4 == 0 {
			x = enclosureIn(r, one-1000, one)
		}
		a, e := angle.Arcsin(x)
		must(t, a, e)
		if sin(t, a.Lo).Hi > x.Lo || a.Lo < 90*degree && sin(t, a.Lo+1).Hi <= x.Lo {
			t.Errorf("Arcsin(%v) = %v: Lo", x, a)
		}
		if sin(t, a.Hi).Lo < x.Hi || a.Hi > -90*degree && sin(t, a.Hi-1).Lo >= x.Hi {
			t.Errorf("Arcsin(%v) = %v: Hi", x, a)
		}
		b, e := angle.Arccos(x)
		must(t, b, e)
		if cos(t, b.Lo).Lo < x.Hi || b.Lo < 180*degree && cos(t, b.Lo+1).Lo >= x.Hi {
			t.Errorf("Arccos(%v) = %v: Lo", x, b)
		}
		if cos(t, b.Hi).Hi > x.Lo || b.Hi > 0 && cos(t, b.Hi-1).Hi <= x.Lo {
			t.Errorf("Arccos(%v) = %v: Hi", x, b)
		}
	}
}

// P1.9
func TestBackFromArcs(t *testing.T) {
	r := rand.New(rand.NewSource(5))
	for _, a := range append(someAngles(r, 1000), 0, 1, 180*degree-1, 180*degree) {
		if c, e := angle.Arccos(cos(t, a)); e != api.OK || a >= 0 && a <= 180*degree && !contains(c, a) {
			t.Errorf("Arccos of Cos of %d: %v, %d", a, c, e)
		}
		if s, e := angle.Arcsin(sin(t, a)); e != api.OK || a >= -90*degree && a <= 90*degree && !contains(s, a) {
			t.Errorf("Arcsin of Sin of %d: %v, %d", a, s, e)
		}
	}
	for range 1000 {
		v := between(r, -one, one)
		c, e := angle.Arccos(point(v))
		must(t, c, e)
		if !contains(encl(cos(t, c.Hi).Lo, cos(t, c.Lo).Hi), v) {
			t.Errorf("%d is not in Cos of Arccos of it", v)
		}
		s, e := angle.Arcsin(point(v))
		must(t, s, e)
		if !contains(encl(sin(t, s.Lo).Lo, sin(t, s.Hi).Hi), v) {
			t.Errorf("%d is not in Sin of Arcsin of it", v)
		}
	}
}
