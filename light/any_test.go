package light_test

import (
	"math"
	"math/rand"
	"reflect"
	"testing"

	"linkboy/api"
	"linkboy/light"
)

// results returns the results of all functions but Check, and their errors.
func results(s api.LtScene, at, n int, p api.RdPatch, c api.LtClass) (list []any, errors []api.Errno) {
	take := func(result any, e api.Errno) { list, errors = append(list, result), append(errors, e) }
	r, e := light.Frame(s, at, p)
	take(r, e)
	x, e := light.Lux(s, p)
	take(x, e)
	x, e = light.Bright(s, p, c.DX, c.DY)
	take(x, e)
	x, e = light.Veil(s, api.LtView{X: p.X0, Y: p.Y1, DX: c.DX, DY: c.DY})
	take(x, e)
	j, e := light.Judge(s, at, c)
	take(j, e)
	is, e := light.Accept(s, at, c)
	take(is, e)
	w, e := light.Window(s, at, n)
	take(w, e)
	w, e = light.Sky(s)
	take(w, e)
	x, e = light.Power(s)
	take(x, e)
	return list, errors
}

// P4.2 to P4.6, R2: the error of Check comes first, and the other results are zero.
func TestErrorOfCheckFirst(t *testing.T) {
	for _, c := range changes() {
		s := street()
		c.do(&s)
		for _, bad := range []int{0, -1, math.MaxInt} { // good arguments, and bad ones
			class := anything(api.LtLux)
			class.Least = bad
			list, errors := results(s, bad, bad, patch(bad, bad, 0, 0), class)
			for i := range list {
				if errors[i] != c.e || !reflect.ValueOf(list[i]).IsZero() {
					t.Errorf("%s: function %d returns %v, %d, want %d", c.name, i, list[i], errors[i], c.e)
				}
			}
		}
	}
}

// wildScene returns a scene with any mistakes in it.
func wildScene(r *rand.Rand) api.LtScene {
	s := street()
	if r.Intn(2) == 0 {
		s = sizes[r.Intn(len(sizes))].scene(r)
	}
	list := changes()
	for range r.Intn(3) {
		wildly(func() { list[r.Intn(len(list))].do(&s) })
	}
	end := func() int { return []int{math.MinInt, math.MaxInt, -1, 0, 1 << 40}[r.Intn(5)] }
	if r.Intn(4) == 0 {
		s.Surface = end()
		s.Lamps = []int{end(), end()}
		s.Uses = []api.LmUse{{Hours: end(), Months: end(), Level: end()}, {}}
	}
	return s
}

// P4.14, P1: no arguments panic, or are changed.
func TestAnyArguments(t *testing.T) {
	r := rand.New(rand.NewSource(21))
	far := api.MaxRdPlace
	ends := []int{math.MinInt, math.MinInt + 1, -far - 1, -far, -1, 0, 1, 2, 1000, 9000, far, far + 1, math.MaxInt - 1, math.MaxInt}
	end := func() int { return ends[r.Intn(len(ends))] }
	for range 4000 {
		s := wildScene(r)
		kept := clone(s)
		at := []int{0, 0, 1, end()}[r.Intn(4)]
		c := api.LtClass{Kind: between(r, 0, 3), Step: between(r, 3000, 30000), DX: 1}
		if r.Intn(2) == 0 {
			c = api.LtClass{Kind: end(), Average: end(), Least: end(), Uniform: end(), Glare: end(), Step: end(), DX: end(), DY: end()}
		}
		list, errors := results(s, at, end(), patch(end(), end(), end(), end()), c)
		for i := range list {
			if errors[i] != api.OK && !reflect.ValueOf(list[i]).IsZero() {
				t.Fatalf("function %d returns %v with %d", i, list[i], errors[i])
			}
		}
		if part, at, e := light.Check(s); e == api.OK && (part != 0 || at != 0) {
			t.Fatalf("Check = %d, %d, OK", part, at)
		}
		if !reflect.DeepEqual(s, kept) {
			t.Fatalf("%v has become %v", kept, s)
		}
	}
}

// P4.14, R3: nil and empty lists are the same.
func TestNilAndEmpty(t *testing.T) {
	for _, s := range []api.LtScene{
		{Surface: -1},
		{Surface: -1, Lamps: []int{}, Uses: []api.LmUse{}, Catalog: api.LmCatalog{Tables: []api.LmTable{}, Lamps: []api.LmLamp{}}, Road: api.RdScene{Trees: []api.RdTree{}, Columns: []api.RdColumn{}}},
	} {
		wantCheck(t, "nothing", s, 0, 0, api.OK)
		wantLux(t, s, spot(0, 0), encl(0, 0), api.OK)
		wantBright(t, s, spot(0, 0), 1, 0, encl(0, 0), api.ErrNone)
		wantVeil(t, s, view(0, 0, 1, 0), encl(0, 0), api.OK)
		wantFrame(t, s, 0, spot(0, 0), rect(0, 0, 0, 0), api.ErrNone)
		wantWindow(t, s, 0, 0, 0, api.ErrNone)
		if n, e := light.Sky(s); n != 0 || e != api.OK {
			t.Errorf("Sky = %d, %d", n, e)
		}
		if _, e := light.Judge(s, 0, anything(api.LtLux)); e != api.ErrNone {
			t.Errorf("Judge: %d", e)
		}
	}
}

// P1: the greatest numbers that there may be do not overflow.
func TestGreatest(t *testing.T) {
	s := api.LtScene{Surface: 1}
	list := []int{-api.MaxTan, api.MaxTan}
	value := func(n int) [][]int { return [][]int{{n, n}, {n, n}} }
	s.Catalog.Tables = []api.LmTable{
		{Name: "a", Us: list, Vs: list, Values: value(100000), Side: 100000, Sky: 100000},
		{Name: "b", Us: list, Vs: list, Values: value(10000), Side: 10000},
	}
	s.Catalog.Lamps = []api.LmLamp{{Name: "a", Kind: api.LmMetal, Lumens: api.MaxLumens, Power: api.MaxPower, Tolerance: 1000, Life: 1}}
	s.Road.Roads = []api.RdRoad{{Name: "a", Points: [][2]int{{-100000, -100000}, {100000, 100000}}, Width: 30000}}
	for i := range api.MaxRdColumns {
		s.Road.Columns = append(s.Road.Columns, api.RdColumn{Name: "c" + string(rune('a'+i)), Height: 1, DX: 1000, DY: -1000})
		s.Lamps, s.Uses = append(s.Lamps, 0), append(s.Uses, api.LmUse{Level: 1000})
	}
	for _, height := range []int{1, 2, 15, 16, 17, 30, 200} {
		for i := range s.Road.Columns {
			s.Road.Columns[i].Height = height
		}
		for _, p := range []api.RdPatch{spot(0, 0), spot(100000, 100000), patch(-100000, -100000, 100000, 100000)} {
			wantLux(t, s, p, trueLux(s, p), api.OK)
			wantBright(t, s, p, 1000, 1000, trueBright(s, p, 1000, 1000), api.OK)
		}
		h := 100*height - 1500
		for _, v := range []api.LtView{view(-100, -100, 1000, 1000), view(-h, 0, 1000, 0), view(-h-1, 0, 1, 0), view(-100000, -100000, 1000, 999), view(-100000, 0, 1, 0)} {
			wantVeil(t, s, v, trueVeil(s, v), api.OK)
		}
		c := api.LtClass{Kind: api.LtBright, Step: 20000, DX: 1000, DY: 1000}
		if r, want := judge(t, s, 0, c), trueJudge(s, 0, c); r != want {
			t.Errorf("Judge = %+v, want %+v", r, want)
		}
	}
}
