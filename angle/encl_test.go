package angle_test

import (
	"math"
	"math/big"
	"math/rand"
	"testing"

	"linkboy/angle"
	"linkboy/api"
)

// P1.4: the examples and the ends.
func TestRootExamples(t *testing.T) {
	for _, c := range []struct{ x, want api.Encl }{
		{point(2 * one), encl(141421356, 141421357)},
		{encl(0, 225000000), encl(0, 150000000)},
		{point(0), point(0)},
		{point(1), point(10000)},
		{point(2), encl(14142, 14143)},
		{encl(2, 3), encl(14142, 17321)},
		{point(one - 2), encl(one-2, one-1)},
		{point(most), encl(547722557, 547722558)},
	} {
		if y, e := angle.Root(c.x); y != c.want || e != api.OK {
			t.Errorf("Root(%v) = %v, %d, want %v", c.x, y, e, c.want)
		}
	}
}

// P1.4
func TestRootErrors(t *testing.T) {
	for _, x := range []api.Encl{encl(2, 1), encl(-1, 1), encl(-2, -1), encl(0, most+1), encl(math.MinInt, math.MaxInt), encl(math.MaxInt, math.MaxInt)} {
		if y, e := angle.Root(x); y != encl(0, 0) || e != api.ErrRange {
			t.Errorf("Root(%v) = %v, %d", x, y, e)
		}
	}
}

// trueRoot returns the least enclosure of the square root of v.
func trueRoot(v int) api.Encl {
	n := new(big.Int).Mul(big.NewInt(int64(v)), big.NewInt(one))
	r := new(big.Int).Sqrt(n)
	lo := int(r.Int64())
	if new(big.Int).Mul(r, r).Cmp(n) == 0 {
		return point(lo)
	}
	return encl(lo, lo+1)
}

// P1.4: around squares a float alone is not right.
func TestRootIsLeast(t *testing.T) {
	r := rand.New(rand.NewSource(6))
	check := func(v int) {
		if y, e := angle.Root(point(v)); y != trueRoot(v) || e != api.OK {
			t.Errorf("Root(%d) = %v, %d, want %v", v, y, e, trueRoot(v))
		}
	}
	for k := 1; k*k <= most; k += 7 {
		check(k*k - 1)
		check(k * k)
		check(k*k + 1)
	}
	for m := 1; m <= 5; m++ { // one below the square of an integer, so that a float rounds the root up to it
		check(m * (m*one - 2))
		check(m * (m*one + 2))
	}
	for range 2000 {
		check(between(r, 0, most))
		x := enclosureIn(r, 0, most)
		y, e := angle.Root(x)
		if want := encl(trueRoot(x.Lo).Lo, trueRoot(x.Hi).Hi); y != want || e != api.OK {
			t.Errorf("Root(%v) = %v, %d, want %v", x, y, e, want)
		}
	}
}

// P1.9
func TestSquareOfRoot(t *testing.T) {
	r := rand.New(rand.NewSource(7))
	for i := range 1000 {
		v := between(r, 0, most-20000)
		if i%2 == 0 {
			v = between(r, 0, 1000)
		}
		y, e := angle.Root(point(v))
		must(t, y, e)
		s, e := angle.Times(y, y)
		if must(t, s, e); !contains(s, v) {
			t.Errorf("the square of Root(%d) is %v", v, s)
		}
	}
}

// P1.5: the examples, roundings below 0, and ends that are just values.
func TestArithmeticExamples(t *testing.T) {
	for i, c := range []struct {
		do         binary
		x, y, want api.Encl
	}{
		{angle.Times, point(3), point(50000000), encl(1, 2)},
		{angle.Times, encl(-one, 2*one), encl(3*one, 4*one), encl(-4*one, 8*one)},
		{angle.Times, encl(-one, 2*one), encl(-4*one, -3*one), encl(-8*one, 4*one)},
		{angle.Times, encl(-3*one, 2*one), encl(-one, 2*one), encl(-6*one, 4*one)},
		{angle.Times, point(-1), point(1), encl(-1, 0)},
		{angle.Times, point(-1), point(-1), encl(0, 1)},
		{angle.Times, point(-most), point(one), point(-most)},
		{angle.Times, point(most), point(-one), point(-most)},
		{angle.Times, encl(0, 0), encl(-most, most), point(0)},
		{angle.Over, point(one), point(3 * one), encl(33333333, 33333334)},
		{angle.Over, point(one), point(-3 * one), encl(-33333334, -33333333)},
		{angle.Over, point(-one), point(-3 * one), encl(33333333, 33333334)},
		{angle.Over, encl(one, 2*one), encl(-2*one, -one), encl(-2*one, -50000000)},
		{angle.Over, encl(-one, one), encl(2*one, 4*one), encl(-50000000, 50000000)},
		{angle.Over, point(most), point(one), point(most)},
		{angle.Over, point(30), point(1), point(most)},
		{angle.Plus, encl(1, 2), encl(-3, 4), encl(-2, 6)},
		{angle.Plus, point(most - 1), point(1), point(most)},
		{angle.Plus, encl(-most, 0), encl(0, most), encl(-most, most)},
		{angle.Minus, encl(1, 2), encl(-3, 4), encl(-3, 5)},
		{angle.Minus, point(1 - most), point(1), point(-most)},
		{angle.Minus, point(most), point(most), point(0)},
	} {
		if z, e := c.do(c.x, c.y); z != c.want || e != api.OK {
			t.Errorf("%d: %v, %v: %v, %d, want %v", i, c.x, c.y, z, e, c.want)
		}
	}
}

// P1.5: arguments that are no enclosures of values come before a division by 0.
func TestArithmeticOfNoValues(t *testing.T) {
	for _, bad := range []api.Encl{encl(2, 1), encl(one, -one), encl(0, most+1), encl(-most-1, 0), encl(math.MinInt, math.MaxInt), encl(math.MaxInt, math.MaxInt), encl(math.MinInt, math.MinInt)} {
		for name, do := range binaries {
			for _, good := range []api.Encl{point(one), point(0), encl(-1, 1), bad} {
				if z, e := do(bad, good); z != encl(0, 0) || e != api.ErrRange {
					t.Errorf("%s(%v, %v) = %v, %d", name, bad, good, z, e)
				}
				if z, e := do(good, bad); z != encl(0, 0) || e != api.ErrRange {
					t.Errorf("%s(%v, %v) = %v, %d", name, good, bad, z, e)
				}
			}
		}
	}
}

// P1.5
func TestArithmeticErrors(t *testing.T) {
	for i, c := range []struct {
		do   binary
		x, y api.Encl
		e    api.Errno
	}{
		{angle.Over, point(one), encl(-one, one), api.ErrZero},
		{angle.Over, point(one), encl(0, 1), api.ErrZero},
		{angle.Over, point(one), encl(-1, 0), api.ErrZero},
		{angle.Over, point(0), point(0), api.ErrZero},
		{angle.Over, point(most), encl(-1, 1), api.ErrZero},
		{angle.Over, point(31), point(1), api.ErrRange},
		{angle.Over, point(31), point(-1), api.ErrRange},
		{angle.Over, point(most), point(one - 1), api.ErrRange},
		{angle.Over, encl(0, most), encl(1, most), api.ErrRange},
		{angle.Plus, point(20 * one), point(20 * one), api.ErrRange},
		{angle.Plus, encl(0, most), encl(0, 1), api.ErrRange},
		{angle.Plus, encl(-most, 0), encl(-1, 0), api.ErrRange},
		{angle.Minus, encl(0, most), encl(-1, 0), api.ErrRange},
		{angle.Minus, encl(-most, 0), encl(0, 1), api.ErrRange},
		{angle.Times, point(most), point(one + 1), api.ErrRange},
		{angle.Times, point(most), point(-one - 1), api.ErrRange},
		{angle.Times, point(most), point(most), api.ErrRange},
		{angle.Times, point(most), point(-most), api.ErrRange},
		{angle.Times, encl(-most, most), encl(-most, most), api.ErrRange},
	} {
		if z, e := c.do(c.x, c.y); z != encl(0, 0) || e != c.e {
			t.Errorf("%d: %v, %v: %v, %d, want %d", i, c.x, c.y, z, e, c.e)
		}
	}
}

// someValues returns an enclosure of values, of any size.
func someValues(r *rand.Rand) api.Encl {
	size := []int{10, 1000, one, 5 * one, most}[r.Intn(5)]
	return enclosureIn(r, -size, size)
}

// orRange returns an enclosure with its error, as arithmetic does.
func orRange(x api.Encl) (api.Encl, api.Errno) {
	if x.Lo < -most || x.Hi > most {
		return encl(0, 0), api.ErrRange
	}
	return x, api.OK
}

// P1.5: compared to fractions.
func TestArithmeticIsLeast(t *testing.T) {
	r := rand.New(rand.NewSource(8))
	truth := map[string]binary{
		"Plus":  func(x, y api.Encl) (api.Encl, api.Errno) { return orRange(encl(x.Lo+y.Lo, x.Hi+y.Hi)) },
		"Minus": func(x, y api.Encl) (api.Encl, api.Errno) { return orRange(encl(x.Lo-y.Hi, x.Hi-y.Lo)) },
		"Times": func(x, y api.Encl) (api.Encl, api.Errno) {
			products := []int{x.Lo * y.Lo, x.Lo * y.Hi, x.Hi * y.Lo, x.Hi * y.Hi}
			return orRange(hullOfQuotients(products, []int{one}, 1))
		},
		"Over": func(x, y api.Encl) (api.Encl, api.Errno) {
			if contains(y, 0) {
				return encl(0, 0), api.ErrZero
			}
			return orRange(hullOfQuotients([]int{x.Lo, x.Hi}, []int{y.Lo, y.Hi}, one))
		},
	}
	for range 5000 {
		x, y := someValues(r), someValues(r)
		for name, do := range binaries {
			z, e := do(x, y)
			if want, f := truth[name](x, y); z != want || e != f {
				t.Errorf("%s(%v, %v) = %v, %d, want %v, %d", name, x, y, z, e, want, f)
			}
		}
	}
}

// P1.8: fractions in x and y have products and quotients in the results.
func TestTimesAndOverEnclose(t *testing.T) {
	r := rand.New(rand.NewSource(9))
	for range 3000 {
		x, y := someValues(r), someValues(r)
		for _, name := range []string{"Times", "Over"} {
			whole, e := binaries[name](x, y)
			if e != api.OK {
				continue
			}
			a, b := point(between(r, x.Lo, x.Hi)), point(between(r, y.Lo, y.Hi))
			if part, e := binaries[name](a, b); e != api.OK || !inside(part, whole) {
				t.Errorf("%s(%v, %v) = %v, %d is not in that of %v, %v: %v", name, a, b, part, e, x, y, whole)
			}
		}
	}
}

// part returns an enclosure in x.
func part(r *rand.Rand, x api.Encl) api.Encl { return enclosureIn(r, x.Lo, x.Hi) }

// P1.10
func TestInclusion(t *testing.T) {
	r := rand.New(rand.NewSource(10))
	ranges := map[string]api.Encl{"SinOf": encl(-api.MaxAngle, api.MaxAngle), "CosOf": encl(-400*degree, 400*degree), "Arccos": encl(-one, one), "Arcsin": encl(-one, one), "Root": encl(0, most)}
	for range 1000 {
		for name, do := range unaries {
			x := part(r, ranges[name])
			whole, e := do(x)
			must(t, whole, e)
			y := part(r, x)
			less, e := do(y)
			if must(t, less, e); !inside(less, whole) {
				t.Errorf("%s(%v) = %v is not in %s(%v) = %v", name, y, less, name, x, whole)
			}
		}
		for name, do := range binaries {
			x, y := someValues(r), someValues(r)
			whole, e := do(x, y)
			if e != api.OK {
				continue
			}
			u, v := part(r, x), part(r, y)
			if less, f := do(u, v); f != api.OK || !inside(less, whole) {
				t.Errorf("%s(%v, %v) = %v, %d is not in %s(%v, %v) = %v", name, u, v, less, f, name, x, y, whole)
			}
		}
	}
}

// P1.12, P1
func TestAnyArguments(t *testing.T) {
	ends := []int{math.MinInt, math.MinInt + 1, -most - 1, -most, -one, -1, 0, 1, one, most, most + 1, math.MaxInt - 1, math.MaxInt}
	for _, a := range ends {
		angle.Sin(a)
		angle.Cos(a)
		angle.Write(a, api.AnNorth)
		angle.Write(1, a)
		for _, b := range ends {
			x, kept := encl(a, b), encl(a, b)
			for name, do := range unaries {
				if y, e := do(x); x != kept || e != api.OK && y != encl(0, 0) {
					t.Errorf("%s(%v) = %v, %d", name, kept, y, e)
				}
			}
			for _, c := range ends {
				for name, do := range binaries {
					if y, e := do(x, encl(c, c)); x != kept || e != api.OK && y != encl(0, 0) {
						t.Errorf("%s(%v, %d) = %v, %d", name, kept, c, y, e)
					}
				}
			}
		}
	}
}
