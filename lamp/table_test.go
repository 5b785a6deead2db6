package lamp_test

import (
	"math"
	"math/big"
	"math/rand"
	"testing"

	"linkboy/api"
	"linkboy/lamp"
)

// P2.3: the examples, and the ends of the table.
func TestIntensityExamples(t *testing.T) {
	for _, x := range []struct {
		dx, dy, h int
		want      api.Encl
	}{
		{0, 0, 8000, encl(400, 400)},
		{-4000, 0, 8000, encl(300, 300)},
		{1000, 500, 3000, encl(370, 372)},
		{0, 8001, 8000, encl(0, 50)},
		{0, 8000, 8000, encl(600, 600)},
		{0, -8000, 8000, encl(200, 200)},
		{0, -8001, 8000, encl(0, 50)},
		{-8000, 8000, 8000, encl(300, 300)},
		{-8001, 8000, 8000, encl(0, 50)},
		{16000, 8000, 8000, encl(100, 100)},
		{16001, 0, 8000, encl(0, 50)},
		{60000, 30000, 30000, encl(100, 100)},
		{2, 1, 1, encl(100, 100)},
		{3, 1, 1, encl(0, 50)},
		{api.MaxOffset, -api.MaxOffset, api.MaxLmHeight, encl(0, 50)},
	} {
		i, e := lamp.Intensity(example(), 0, x.dx, x.dy, x.h)
		if i != x.want || e != api.OK {
			t.Errorf("Intensity at %d, %d, h %d: %v, %d, want %v", x.dx, x.dy, x.h, i, e, x.want)
		}
	}
}

// P2.3, P2.4: two roundings one after the other, and not one of both together.
func TestIntensityRoundsTwice(t *testing.T) {
	c := api.LmCatalog{Tables: []api.LmTable{{Name: "t", Us: []int{0, 1000}, Vs: []int{0, 1000}, Values: [][]int{{0, 1}, {1, 0}}}}}
	for _, x := range []struct {
		dx, dy int
		want   api.Encl
	}{{1, 1, encl(0, 1)}, {1, 2, encl(0, 1)}, {0, 1, encl(0, 1)}, {0, 0, encl(0, 0)}, {2, 0, encl(1, 1)}, {2, 2, encl(0, 0)}} {
		if i, e := lamp.Intensity(c, 0, x.dx, x.dy, 2); i != x.want || e != api.OK {
			t.Errorf("Intensity at %d, %d: %v, %d, want %v", x.dx, x.dy, i, e, x.want)
		}
	}
	c.Tables[0].Values = [][]int{{3, 4}, {4, 5}} // half across and half along it is just 4, but between 3 and 5 by its parts
	if i, e := lamp.Intensity(c, 0, 1, 1, 2); i != encl(3, 5) || e != api.OK {
		t.Errorf("Intensity at 1, 1: %v, %d", i, e)
	}
}

// P2.4: the examples, and rectangles that are points, lines, around the table, and beside it.
func TestOverExamples(t *testing.T) {
	for _, x := range []struct {
		r    api.LmRect
		h    int
		want api.Encl
	}{
		{rect(-4000, 4000, 0, 8000), 8000, encl(300, 600)},
		{rect(-9000, 0, 0, 0), 8000, encl(0, 400)},
		{rect(-8000, 16000, -8000, 8000), 8000, encl(0, 600)},
		{rect(-8001, 16001, -8001, 8001), 8000, encl(0, 600)},
		{rect(-api.MaxOffset, api.MaxOffset, -api.MaxOffset, api.MaxOffset), 1, encl(0, 600)},
		{rect(-8000, 0, 8000, 8000), 8000, encl(300, 600)},
		{rect(-8000, -8000, -8000, 8000), 8000, encl(100, 300)},
		{rect(0, 0, 0, 0), 8000, encl(400, 400)},
		{rect(-4000, -4000, 0, 0), 8000, encl(300, 300)},
		{rect(-100000, -8001, 0, 0), 8000, encl(0, 50)},
		{rect(-100000, 100000, 8001, 8001), 8000, encl(0, 50)},
		{rect(-100000, -8000, -8000, -8000), 8000, encl(0, 100)},
		{rect(-8000, -8000, 8000, 9000), 8000, encl(0, 300)},
		{rect(16000, 17000, -8000, -8000), 8000, encl(0, 50)},
	} {
		i, e := lamp.Over(example(), 0, x.r, x.h)
		if i != x.want || e != api.OK {
			t.Errorf("Over %v, h %d: %v, %d, want %v", x.r, x.h, i, e, x.want)
		}
	}
}

// P2.3, P2.4: another table of the catalogue.
func TestTableIndex(t *testing.T) {
	c := two()
	c.Tables[1].Side = 7
	for table, want := range []int{50, 7} {
		if i, e := lamp.Intensity(c, table, 100, 0, 1); i != encl(0, want) || e != api.OK {
			t.Errorf("Intensity of table %d: %v, %d", table, i, e)
		}
		if i, e := lamp.Over(c, table, rect(100, 101, 0, 0), 1); i != encl(0, want) || e != api.OK {
			t.Errorf("Over of table %d: %v, %d", table, i, e)
		}
	}
}

// P2.3, P2.4: compared to fractions.
func TestIntensitiesAreTrue(t *testing.T) {
	r := rand.New(rand.NewSource(2))
	for range 4000 {
		c := api.LmCatalog{Tables: []api.LmTable{someTable(r, "t")}}
		table, h := c.Tables[0], someHeight(r)
		dx, dy := somePlace(r, table.Us, h), somePlace(r, table.Vs, h)
		i, e := lamp.Intensity(checked(t, c), 0, dx, dy, h)
		if want := trueIntensity(table, fraction(1000*dx, h), fraction(1000*dy, h)); must(t, i, e) != want {
			t.Fatalf("Intensity of %v at %d, %d, h %d = %v, want %v", table, dx, dy, h, i, want)
		}
		rect := someRect(r, table, h)
		o, e := lamp.Over(c, 0, rect, h)
		if want := trueOver(table, rect, h); must(t, o, e) != want {
			t.Fatalf("Over of %v, %v, h %d = %v, want %v", table, rect, h, o, want)
		}
	}
}

// P2.3 to P2.5
func TestTableErrors(t *testing.T) {
	const far = api.MaxOffset
	c := example()
	for _, x := range []struct {
		table, dx, dy, h int
		e                api.Errno
	}{
		{-1, 0, 0, 1, api.ErrNone}, {1, 0, 0, 1, api.ErrNone}, {math.MaxInt, 0, 0, 1, api.ErrNone}, {1, far + 1, 0, 0, api.ErrNone},
		{0, 0, 0, 0, api.ErrRange}, {0, 0, 0, -1, api.ErrRange}, {0, 0, 0, api.MaxLmHeight + 1, api.ErrRange}, {0, 0, 0, math.MinInt, api.ErrRange},
		{0, far + 1, 0, 1, api.ErrRange}, {0, -far - 1, 0, 1, api.ErrRange}, {0, 0, far + 1, 1, api.ErrRange}, {0, 0, -far - 1, 1, api.ErrRange},
		{0, math.MinInt, math.MaxInt, 1, api.ErrRange},
	} {
		if i, e := lamp.Intensity(c, x.table, x.dx, x.dy, x.h); i != encl(0, 0) || e != x.e {
			t.Errorf("Intensity of %v: %v, %d", x, i, e)
		}
		if i, e := lamp.Over(c, x.table, rect(x.dx, x.dx, x.dy, x.dy), x.h); i != encl(0, 0) || e != x.e {
			t.Errorf("Over of %v: %v, %d", x, i, e)
		}
	}
	for _, x := range []struct {
		r api.LmRect
		e api.Errno
	}{
		{rect(1, 0, 0, 0), api.ErrArg}, {rect(0, 0, 1, 0), api.ErrArg}, {rect(far, -far, 0, 0), api.ErrArg},
		{rect(0, far+1, 0, 0), api.ErrRange}, {rect(-far-1, 0, 0, 0), api.ErrRange}, {rect(0, 0, 0, far+1), api.ErrRange}, {rect(0, 0, -far-1, 0), api.ErrRange},
		{rect(far+1, 0, 0, 0), api.ErrRange}, {rect(1, 0, 0, far+1), api.ErrRange}, {rect(math.MaxInt, math.MinInt, 0, 0), api.ErrRange},
	} {
		if i, e := lamp.Over(c, 0, x.r, 1); i != encl(0, 0) || e != x.e {
			t.Errorf("Over %v: %v, %d, want %d", x.r, i, e, x.e)
		}
		if i, e := lamp.Over(c, 0, x.r, 0); i != encl(0, 0) || e != api.ErrRange {
			t.Errorf("Over %v, h 0: %v, %d", x.r, i, e)
		}
		if i, e := lamp.Over(c, 1, x.r, 0); i != encl(0, 0) || e != api.ErrNone {
			t.Errorf("Over of no table, %v: %v, %d", x.r, i, e)
		}
	}
	for _, x := range []struct {
		table, split int
		e            api.Errno
	}{{-1, 1, api.ErrNone}, {1, 0, api.ErrNone}, {0, 0, api.ErrRange}, {0, -1, api.ErrRange}, {0, 5, api.ErrRange}, {0, math.MaxInt, api.ErrRange}} {
		if s, e := lamp.Share(c, x.table, x.split); s != encl(0, 0) || e != x.e {
			t.Errorf("Share(%d, %d) = %v, %d, want %d", x.table, x.split, s, e, x.e)
		}
	}
}

// P2.5: worked out by hand.
func TestShareExamples(t *testing.T) {
	table := api.LmTable{Name: "t", Us: []int{0, 1000}, Vs: []int{-1000, 0, 1000}, Values: [][]int{{10, 40, 20}, {20, 30, 30}}}
	c := api.LmCatalog{Tables: []api.LmTable{table}}
	// The least value of both fields is 10, or 20, and the greatest one 40; d is from 1000 to 1733. So the sum is from
	// 10 * 10^9 / 1733^3 + 20 * 10^9 / 1733^3, each down, to 2 * 40 * 10^9 / 1000^3.
	if s, e := lamp.Share(c, 0, 1); s != encl(0, 1) || e != api.OK {
		t.Errorf("Share = %v, %d", s, e)
	}
	for i := range table.Values {
		for k := range table.Values[i] {
			table.Values[i][k] *= 1000
		}
	}
	// 10000 * 10^9 / 1733^3 is 1921.3, and 20000 * 10^9 / 1733^3 3842.6, so the Lo is 5763 / 1000; the Hi is 80000 / 1000.
	if s, e := lamp.Share(c, 0, 1); s != encl(5, 80) || e != api.OK {
		t.Errorf("Share = %v, %d", s, e)
	}
	// The root of 1000^2 + 500^2 + 1000^2 is 1500, and 27000 * 500 * 1000 * 1000 / 1500^3 is 4000; the Hi is 13500 / 1000.
	table = api.LmTable{Name: "t", Us: []int{0, 500}, Vs: []int{-1000, 0}, Values: [][]int{{27000, 27000}, {27000, 27000}}}
	if s, e := lamp.Share(api.LmCatalog{Tables: []api.LmTable{table}}, 0, 1); s != encl(4, 14) || e != api.OK {
		t.Errorf("Share = %v, %d", s, e)
	}
}

// P2.5: 1000^2 + 1 + 4900^2 is the square of 5001, so it makes a difference whether the least square is 0 or 1.
func TestShareBesideZero(t *testing.T) {
	for first := -1; first <= 2; first++ {
		for value := 9000000; value <= api.MaxIntensity; value += 2500 {
			table := api.LmTable{Name: "t", Us: []int{first, api.MaxTan}, Vs: []int{4900, api.MaxTan}, Values: [][]int{{value, 0}, {0, 0}}}
			s, e := lamp.Share(api.LmCatalog{Tables: []api.LmTable{table}}, 0, 1)
			if want := trueShare(table, 1); must(t, s, e) != want {
				t.Fatalf("Share of %v = %v, want %v", table, s, want)
			}
		}
	}
}

// P2.5: compared to fractions, in each split, with fields that are narrower than it.
func TestSharesAreTrue(t *testing.T) {
	r := rand.New(rand.NewSource(3))
	for i := range 120 {
		table := someTable(r, "t")
		if i%3 == 0 {
			table = api.LmTable{Name: "t", Us: []int{-2, -1, 1, 3}, Vs: []int{-3, 0, 2, 9}, Values: [][]int{{1e7, 1e7, 0, 5}, {9e6, 1e7, 1, 1e7}, {1e7, 1e7, 1e7, 1e7}, {3e6, 0, 0, 1}}}
			table.Us[0], table.Vs[3] = from(r, -5000, -2), from(r, 9, 5000)
		}
		c := api.LmCatalog{Tables: []api.LmTable{table}}
		for split := 1; split <= api.MaxSplit; split++ {
			s, e := lamp.Share(checked(t, c), 0, split)
			if want := trueShare(table, split); must(t, s, e) != want {
				t.Fatalf("Share of %v, %d = %v, want %v", table, split, s, want)
			}
		}
	}
	// The greatest numbers that there may be.
	full := api.LmTable{Name: "t", Us: []int{-5000, 5000}, Vs: []int{-5000, 5000}, Values: [][]int{{1e7, 1e7}, {1e7, 1e7}}}
	s, e := lamp.Share(api.LmCatalog{Tables: []api.LmTable{full}}, 0, 1)
	if want := trueShare(full, 1); must(t, s, e) != want {
		t.Errorf("Share = %v, want %v", s, want)
	}
}

// P2.9: at the tangents the intensity is the value itself.
func TestIntensityAtTangents(t *testing.T) {
	r := rand.New(rand.NewSource(4))
	for range 300 {
		c := api.LmCatalog{Tables: []api.LmTable{someTable(r, "t")}}
		for a, u := range c.Tables[0].Us {
			for b, v := range c.Tables[0].Vs {
				n := from(r, 1, 30)
				i, e := lamp.Intensity(c, 0, u*n, v*n, 1000*n)
				if value := c.Tables[0].Values[a][b]; must(t, i, e) != encl(value, value) {
					t.Fatalf("Intensity at %d, %d = %v, want %d", u, v, i, value)
				}
			}
		}
	}
}

// P2.9, P2.10: the intensity of a point is between the values around it, and has the exact one in it.
func TestIntensityEncloses(t *testing.T) {
	r := rand.New(rand.NewSource(5))
	for range 5000 {
		c := api.LmCatalog{Tables: []api.LmTable{someTable(r, "t")}}
		table, h := c.Tables[0], someHeight(r)
		dx, dy := somePlace(r, table.Us, h), somePlace(r, table.Vs, h)
		u, v := fraction(1000*dx, h), fraction(1000*dy, h)
		x, e := lamp.Intensity(c, 0, dx, dy, h)
		must(t, x, e)
		if !inTable(table, u, v) {
			continue
		}
		i, k := lastBut(table.Us, u), lastBut(table.Vs, v)
		around := []int{table.Values[i][k], table.Values[i][k+1], table.Values[i+1][k], table.Values[i+1][k+1]}
		var whole []api.Encl
		for _, n := range around {
			whole = append(whole, encl(n, n))
		}
		if !inside(x, hullOf(whole...)) || !holds(x, exact(table, u, v)) {
			t.Fatalf("Intensity at %d, %d, h %d = %v, but the values are %v, and it is %v", dx, dy, h, x, around, exact(table, u, v))
		}
	}
}

// holds reports whether a fraction is in an enclosure.
func holds(x api.Encl, n *big.Rat) bool { return isBetween(x.Lo, x.Hi, n) }

func widened(x api.Encl) api.Encl { return encl(x.Lo-1, x.Hi+1) }

// P2.10: points and parts of a rectangle, and its halves.
func TestOverEncloses(t *testing.T) {
	r := rand.New(rand.NewSource(6))
	for range 3000 {
		c := api.LmCatalog{Tables: []api.LmTable{someTable(r, "t")}}
		table, h := c.Tables[0], someHeight(r)
		whole := someRect(r, table, h)
		over := func(part api.LmRect) api.Encl {
			x, e := lamp.Over(c, 0, part, h)
			return must(t, x, e)
		}
		x := over(whole)
		check := func(what string, y api.Encl) {
			if !inside(y, widened(x)) {
				t.Fatalf("%s of %v, %v, h %d: %v is not in %v", what, table, whole, h, y, x)
			}
		}
		part := someRect(r, table, h)
		part = rect(max(part.X0, whole.X0), min(part.X1, whole.X1), max(part.Y0, whole.Y0), min(part.Y1, whole.Y1))
		if part.X0 <= part.X1 && part.Y0 <= part.Y1 {
			check("a part", over(part))
		}
		middle := from(r, whole.X0, whole.X1)
		left, right := whole, whole
		left.X1, right.X0 = middle, middle
		halves := hullOf(over(left), over(right))
		check("halves", halves)
		dx, dy := from(r, whole.X0, whole.X1), from(r, whole.Y0, whole.Y1)
		i, e := lamp.Intensity(c, 0, dx, dy, h)
		check("a point", must(t, i, e))
		if u, v := fraction(1000*dx, h), fraction(1000*dy, h); inTable(table, u, v) {
			if n := exact(table, u, v); !holds(x, n) || !holds(halves, n) {
				t.Fatalf("%v is not in Over %v of %v: %v, or in its halves %v", n, whole, table, x, halves)
			}
		} else if x.Lo != 0 || x.Hi < table.Side || halves.Lo != 0 || halves.Hi < table.Side {
			t.Fatalf("0 and %d are not in Over %v: %v, or in its halves %v", table.Side, whole, x, halves)
		}
	}
}

// P2.11: with a greater split.
func TestSharesBecomeNarrower(t *testing.T) {
	r := rand.New(rand.NewSource(7))
	for range 300 {
		c := api.LmCatalog{Tables: []api.LmTable{someTable(r, "t")}}
		share := func(split int) api.Encl {
			s, e := lamp.Share(c, 0, split)
			if must(t, s, e); s.Lo < 0 || s.Lo > s.Hi {
				t.Fatalf("Share = %v", s)
			}
			return s
		}
		for _, x := range [][2]int{{1, 2}, {1, 3}, {1, 4}, {2, 4}} {
			less, more := share(x[0]), share(x[1])
			parts := (len(c.Tables[0].Us) - 1) * (len(c.Tables[0].Vs) - 1) * x[1] * x[1]
			slack := 2 + 2*parts/1000
			if !inside(more, encl(less.Lo-slack, less.Hi+slack)) {
				t.Fatalf("Share of %v: %v with %d, but %v with %d", c.Tables[0], less, x[0], more, x[1])
			}
		}
	}
}

// P2.11: with lesser values.
func TestSharesOfLesserValues(t *testing.T) {
	r := rand.New(rand.NewSource(8))
	for range 300 {
		c := api.LmCatalog{Tables: []api.LmTable{someTable(r, "t"), {Name: "less"}}}
		c.Tables[1].Us, c.Tables[1].Vs = c.Tables[0].Us, c.Tables[0].Vs
		for _, row := range c.Tables[0].Values {
			var lesser []int
			for _, n := range row {
				lesser = append(lesser, edged(r, 0, n))
			}
			c.Tables[1].Values = append(c.Tables[1].Values, lesser)
		}
		split := from(r, 1, api.MaxSplit)
		more, e := lamp.Share(checked(t, c), 0, split)
		must(t, more, e)
		less, e := lamp.Share(c, 1, split)
		if must(t, less, e); less.Lo > more.Lo || less.Hi > more.Hi {
			t.Fatalf("Share = %v, but %v with lesser values", more, less)
		}
	}
}
