package lamp_test

import (
	"math/big"
	"math/rand"
	"slices"
	"strconv"
	"testing"

	"linkboy/api"
	"linkboy/lamp"
)

// The text of the chapter's examples.
const wide = `table wide
us -1000 0 2000
vs -1000 1000
row 100 300
row 200 600
row 0 100
side 50
sky 5
`

const head = "lamp head wide led lumens 8000 power 60000 standing 500 tolerance 50 ageing 2..4 dirt 3..5 life 100000 dim 200 restrike 0\n"

// example returns the catalogue of the chapter's examples.
func example() api.LmCatalog {
	return api.LmCatalog{Tables: []api.LmTable{exampleTable("wide")}, Lamps: []api.LmLamp{exampleLamp("head")}}
}

func exampleTable(name string) api.LmTable {
	return api.LmTable{Name: name, Us: []int{-1000, 0, 2000}, Vs: []int{-1000, 1000}, Values: [][]int{{100, 300}, {200, 600}, {0, 100}}, Side: 50, Sky: 5}
}

func exampleLamp(name string) api.LmLamp {
	return api.LmLamp{
		Name: name, Table: 0, Kind: api.LmLed, Lumens: 8000, Power: 60000, Standing: 500, Tolerance: 50,
		Ageing: encl(2, 4), Dirt: encl(3, 5), Life: 100000, Dim: 200,
	}
}

func encl(lo, hi int) api.Encl { return api.Encl{Lo: lo, Hi: hi} }

func inside(x, whole api.Encl) bool { return whole.Lo <= x.Lo && x.Hi <= whole.Hi }

func hullOf(list ...api.Encl) api.Encl {
	h := list[0]
	for _, x := range list {
		h = encl(min(h.Lo, x.Lo), max(h.Hi, x.Hi))
	}
	return h
}

func rect(x0, x1, y0, y1 int) api.LmRect { return api.LmRect{X0: x0, X1: x1, Y0: y0, Y1: y1} }

// must returns x, and fails if there is an error.
func must(t *testing.T, x api.Encl, e api.Errno) api.Encl {
	t.Helper()
	if e != api.OK {
		t.Fatalf("error %d", e)
	}
	return x
}

func fraction(n, d int) *big.Rat { return big.NewRat(int64(n), int64(d)) }

func number(n int) *big.Rat { return fraction(n, 1) }

func times(x, y *big.Rat) *big.Rat { return new(big.Rat).Mul(x, y) }

func floor(x *big.Rat) int {
	return int(new(big.Int).Div(x.Num(), x.Denom()).Int64()) // of Euclid: downwards, as the denominator is above 0
}

func ceil(x *big.Rat) int { return -floor(new(big.Rat).Neg(x)) }

// mixed returns what is at n, if x is at from and y is at to.
func mixed(from, to int, n, x, y *big.Rat) *big.Rat {
	width := number(to - from)
	a := new(big.Rat).Quo(new(big.Rat).Sub(number(to), n), width)
	b := new(big.Rat).Quo(new(big.Rat).Sub(n, number(from)), width)
	return new(big.Rat).Add(times(a, x), times(b, y))
}

func isBetween(first, last int, n *big.Rat) bool {
	return number(first).Cmp(n) <= 0 && n.Cmp(number(last)) <= 0
}

func inTable(t api.LmTable, u, v *big.Rat) bool {
	return isBetween(t.Us[0], t.Us[len(t.Us)-1], u) && isBetween(t.Vs[0], t.Vs[len(t.Vs)-1], v)
}

// lastBut returns the index of the last one of a list but one that is at most n.
func lastBut(list []int, n *big.Rat) int {
	for i := len(list) - 2; i > 0; i-- {
		if number(list[i]).Cmp(n) <= 0 {
			return i
		}
	}
	return 0
}

// trueIntensity returns the intensity in a direction, as the chapter says.
func trueIntensity(t api.LmTable, u, v *big.Rat) api.Encl {
	if !inTable(t, u, v) {
		return encl(0, t.Side)
	}
	i, k := lastBut(t.Us, u), lastBut(t.Vs, v)
	p := func(a int) *big.Rat {
		return mixed(t.Vs[k], t.Vs[k+1], v, number(t.Values[a][k]), number(t.Values[a][k+1]))
	}
	lo := mixed(t.Us[i], t.Us[i+1], u, number(floor(p(i))), number(floor(p(i+1))))
	hi := mixed(t.Us[i], t.Us[i+1], u, number(ceil(p(i))), number(ceil(p(i+1))))
	return encl(floor(lo), ceil(hi))
}

// exact returns the interpolation without rounding.
func exact(t api.LmTable, u, v *big.Rat) *big.Rat {
	i, k := lastBut(t.Us, u), lastBut(t.Vs, v)
	p := func(a int) *big.Rat {
		return mixed(t.Vs[k], t.Vs[k+1], v, number(t.Values[a][k]), number(t.Values[a][k+1]))
	}
	return mixed(t.Us[i], t.Us[i+1], u, p(i), p(i+1))
}

// stops returns two tangents and those of a list between them.
func stops(list []int, from, to *big.Rat) []*big.Rat {
	all := []*big.Rat{from, to}
	for _, n := range list {
		if from.Cmp(number(n)) <= 0 && number(n).Cmp(to) <= 0 {
			all = append(all, number(n))
		}
	}
	return all
}

// trueOver returns the intensity over a rectangle, as the chapter says.
func trueOver(t api.LmTable, r api.LmRect, h int) api.Encl {
	u0, u1, v0, v1 := fraction(1000*r.X0, h), fraction(1000*r.X1, h), fraction(1000*r.Y0, h), fraction(1000*r.Y1, h)
	var all []api.Encl
	for _, u := range stops(t.Us, u0, u1) {
		for _, v := range stops(t.Vs, v0, v1) {
			if inTable(t, u, v) {
				all = append(all, trueIntensity(t, u, v))
			}
		}
	}
	if !inTable(t, u0, v0) || !inTable(t, u0, v1) || !inTable(t, u1, v0) || !inTable(t, u1, v1) {
		all = append(all, encl(0, t.Side))
	}
	return hullOf(all...)
}

// trueRoot returns the square root of n, rounded down and up.
func trueRoot(n int) (down, up int) {
	down = int(new(big.Int).Sqrt(big.NewInt(int64(n))).Int64())
	if down*down == n {
		return down, down
	}
	return down, down + 1
}

// leastAndMost returns the least and the greatest square of a number from a to b.
func leastAndMost(a, b int) (least, most int) {
	if a > 0 || b < 0 {
		least = min(a*a, b*b)
	}
	return least, max(a*a, b*b)
}

// trueShare returns the share, as the chapter says.
func trueShare(t api.LmTable, split int) api.Encl {
	lo, hi := 0, 0
	cut := func(from, to, j int) int { return floor(fraction(from*split+(to-from)*j, split)) }
	part := func(corners []int, u0, u1, v0, v1 int) {
		uu, moreU := leastAndMost(u0, u1)
		vv, moreV := leastAndMost(v0, v1)
		d, _ := trueRoot(1000000 + uu + vv)
		_, far := trueRoot(1000000 + moreU + moreV)
		size := number((u1 - u0) * (v1 - v0) * 1000)
		lo += floor(times(times(number(slices.Min(corners)), size), fraction(1, far*far*far)))
		hi += ceil(times(times(number(slices.Max(corners)), size), fraction(1, d*d*d)))
	}
	for i := range len(t.Us) - 1 {
		for k := range len(t.Vs) - 1 {
			corners := []int{t.Values[i][k], t.Values[i][k+1], t.Values[i+1][k], t.Values[i+1][k+1]}
			for a := range split {
				for b := range split {
					part(corners, cut(t.Us[i], t.Us[i+1], a), cut(t.Us[i], t.Us[i+1], a+1), cut(t.Vs[k], t.Vs[k+1], b), cut(t.Vs[k], t.Vs[k+1], b+1))
				}
			}
		}
	}
	return encl(floor(fraction(lo, 1000)), ceil(fraction(hi, 1000)))
}

// trueFlux returns the flux, as the chapter says.
func trueFlux(l api.LmLamp, u api.LmUse) api.Encl {
	taken := func(ageing, dirt int, rounded func(*big.Rat) int) int {
		n := l.Lumens
		for _, share := range []*big.Rat{fraction(1000000-ageing*u.Hours, 1000000), fraction(1000-dirt*u.Months, 1000), fraction(u.Level, 1000)} {
			if share.Sign() < 0 {
				share = number(0)
			}
			n = rounded(times(number(n), share))
		}
		return n
	}
	return encl(taken(l.Ageing.Hi, l.Dirt.Hi, floor), taken(l.Ageing.Lo, l.Dirt.Lo, ceil))
}

// truePower returns the power, as the chapter says.
func truePower(l api.LmLamp, level int) api.Encl {
	p := new(big.Rat).Add(number(l.Standing), times(number(l.Power-l.Standing), fraction(level, 1000)))
	return encl(floor(times(p, fraction(1000-l.Tolerance, 1000))), ceil(times(p, fraction(1000+l.Tolerance, 1000))))
}

// from returns an integer from lo to hi.
func from(r *rand.Rand, lo, hi int) int { return lo + r.Intn(hi-lo+1) }

// edged returns an integer from lo to hi, often one of them.
func edged(r *rand.Rand, lo, hi int) int {
	switch r.Intn(6) {
	case 0:
		return lo
	case 1:
		return hi
	}
	return from(r, lo, hi)
}

func someEncl(r *rand.Rand, lo, hi int) api.Encl {
	a, b := edged(r, lo, hi), edged(r, lo, hi)
	return encl(min(a, b), max(a, b))
}

func someTangents(r *rand.Rand) []int {
	n := edged(r, 2, api.MaxGrid)
	size := []int{n, 100, 1500, api.MaxTan}[r.Intn(4)]
	seen := map[int]bool{}
	for len(seen) < n {
		seen[edged(r, -size, size)] = true
	}
	var list []int
	for u := range seen {
		list = append(list, u)
	}
	slices.Sort(list)
	return list
}

func someTable(r *rand.Rand, name string) api.LmTable {
	t := api.LmTable{Name: name, Us: someTangents(r), Vs: someTangents(r)}
	most := []int{1, 10, 1000, api.MaxIntensity}[r.Intn(4)]
	for range t.Us {
		var row []int
		for range t.Vs {
			row = append(row, edged(r, 0, most))
		}
		t.Values = append(t.Values, row)
	}
	t.Side, t.Sky = edged(r, 0, most), edged(r, 0, most)
	return t
}

func someLamp(r *rand.Rand, name string, tables int) api.LmLamp {
	l := api.LmLamp{
		Name: name, Table: r.Intn(tables), Kind: from(r, api.LmLed, api.LmMetal), Lumens: edged(r, 1, api.MaxLumens),
		Power: edged(r, 1, api.MaxPower), Tolerance: edged(r, 0, 1000), Ageing: someEncl(r, 0, 1000), Dirt: someEncl(r, 0, 1000),
		Life: edged(r, 1, api.MaxHours), Dim: edged(r, 0, 1000), Restrike: edged(r, 0, api.MaxRestrike),
	}
	if r.Intn(2) == 0 {
		l.Ageing, l.Dirt = someEncl(r, 0, 8), someEncl(r, 0, 8)
	}
	l.Standing = edged(r, 0, l.Power)
	if l.Kind == api.LmLed {
		l.Restrike = 0
	}
	return l
}

// someCatalog returns a catalogue with at least one table and one lamp.
func someCatalog(r *rand.Rand) api.LmCatalog {
	var c api.LmCatalog
	for i := range edged(r, 1, api.MaxTables) {
		c.Tables = append(c.Tables, someTable(r, "t-"+strconv.Itoa(i)))
	}
	for i := range edged(r, 1, api.MaxLamps) {
		c.Lamps = append(c.Lamps, someLamp(r, "l"+strconv.Itoa(i), len(c.Tables)))
	}
	return c
}

func someUse(r *rand.Rand) api.LmUse {
	u := api.LmUse{Hours: edged(r, 0, api.MaxHours), Months: edged(r, 0, api.MaxMonths), Level: edged(r, 0, 1000)}
	if r.Intn(2) == 0 {
		u.Hours, u.Months = from(r, 0, 50000), from(r, 0, 36)
	}
	return u
}

// somePlace returns an offset that is near the tangents of a list.
func somePlace(r *rand.Rand, list []int, h int) int {
	n := list[r.Intn(len(list))] * h / 1000
	if r.Intn(3) == 0 {
		n = from(r, list[0]*h/1000, list[len(list)-1]*h/1000)
	}
	return max(min(n+from(r, -3, 3)*r.Intn(2), api.MaxOffset), -api.MaxOffset)
}

func someHeight(r *rand.Rand) int {
	return []int{1, 1000, from(r, 1, 100), from(r, 1, api.MaxLmHeight), api.MaxLmHeight}[r.Intn(5)]
}

func someRect(r *rand.Rand, t api.LmTable, h int) api.LmRect {
	a, b := somePlace(r, t.Us, h), somePlace(r, t.Us, h)
	c, d := somePlace(r, t.Vs, h), somePlace(r, t.Vs, h)
	return rect(min(a, b), max(a, b), min(c, d), max(c, d))
}

// checked fails if a catalogue that is meant to be right is not.
func checked(t *testing.T, c api.LmCatalog) api.LmCatalog {
	t.Helper()
	if part, at, e := lamp.Check(c); e != api.OK {
		t.Fatalf("Check: %d, %d, %d", part, at, e)
	}
	return c
}
