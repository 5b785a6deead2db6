package layout_test

import (
	"math"
	"math/rand"
	"reflect"
	"slices"
	"strings"
	"testing"

	"linkboy/api"
	"linkboy/layout"
	"linkboy/light"
)

// P5.1: all layouts, in their order.
func TestAll(t *testing.T) {
	list := all(t, example())
	if len(list) != 16 || list[0] != choice(0, 0, 0, 1, 1) || list[3] != choice(0, 0, 0, 1, 4) || list[4] != choice(0, 0, 1, 1, 1) || list[8] != choice(1, 0, 0, 1, 1) {
		t.Errorf("All = %v", list)
	}
	list = all(t, street())
	if len(list) != 96 || list[4] != choice(0, 0, 0, 2, 1) || list[12] != choice(0, 0, 1, 1, 1) || list[24] != choice(0, 1, 0, 1, 1) || list[95] != choice(1, 1, 1, 3, 4) {
		t.Errorf("All = %v", list)
	}
	someTasks(t, 1, 50, func(r *rand.Rand, k api.LoTask) {
		if list := all(t, k); !slices.Equal(list, trueAll(k)) {
			t.Errorf("%+v: All = %v", k, list)
		}
	})
}

// names returns the names of the columns of a layout.
func names(t *testing.T, k api.LoTask, l api.LoLayout) string {
	t.Helper()
	var list []string
	for _, c := range build(t, k, l).Road.Columns {
		list = append(list, c.Name)
	}
	return strings.Join(list, " ")
}

// P5.2, P5.12: which sites have columns.
func TestColumns(t *testing.T) {
	k := street() // the sites with even indices are on the left
	k.Steps = 4
	k.Levels = k.Levels[:1]
	for _, c := range []struct {
		step int
		want [5]string
	}{
		{1, [5]string{"", "c0 c2 c4 c6", "c1 c3 c5 c7", "c0 c1 c2 c3 c4 c5 c6 c7", "c0 c1 c2 c3 c4 c5 c6 c7"}},
		{2, [5]string{"", "c0 c4", "c1 c5", "c0 c1 c4 c5", "c0 c3 c4 c7"}},
		{3, [5]string{"", "c0 c6", "c1 c7", "c0 c1 c6 c7", "c0 c3 c6"}},
		{4, [5]string{"", "c0", "c1", "c0 c1", "c0 c5"}},
	} {
		for sides := api.LoLeft; sides <= api.LoZigzag; sides++ {
			if got := names(t, k, choice(0, 0, 0, c.step, sides)); got != c.want[sides] {
				t.Errorf("step %d, sides %d: %s", c.step, sides, got)
			}
		}
	}
	k.Sites = slices.Insert(k.Sites, 0, k.Sites[1], k.Sites[3], k.Sites[5]) // the first ones are on the right now
	for len(k.Sites) < 24 {
		k.Sites = append(k.Sites, k.Sites[3]) // on the left
	}
	if got := names(t, k, choice(0, 0, 0, 4, api.LoZigzag)); got != "c2 c3 c10 c11 c15 c19 c23" {
		t.Errorf("zigzag: %s", got)
	}
}

// P5.2, P5.12: all of a scene that is built.
func TestBuild(t *testing.T) {
	k := street()
	k.Levels = []int{1, 700}
	s := build(t, k, choice(1, 1, 1, 3, api.LoZigzag))
	want := street().Scene
	want.Road.Columns = []api.RdColumn{
		{Name: "c0", X: 0, Y: 4000, Height: 60, DY: -1}, {Name: "c3", X: 6000, Y: -4000, Height: 60, DX: 3, DY: 4}, {Name: "c6", X: 18000, Y: 4000, Height: 60, DY: -1},
	}
	use := api.LmUse{Hours: 4000, Months: 6, Level: 700}
	want.Lamps, want.Uses = []int{1, 1, 1}, []api.LmUse{use, use, use}
	if !reflect.DeepEqual(s, want) {
		t.Errorf("Build = %+v, want %+v", s, want)
	}
	s = build(t, k, choice(0, 0, 0, 1, api.LoRight))
	for i, c := range s.Road.Columns {
		if c.Height != 80 || s.Lamps[i] != 0 || s.Uses[i] != (api.LmUse{Level: 1}) {
			t.Errorf("Build = %+v", s)
		}
	}
	someTasks(t, 2, 50, func(r *rand.Rand, k api.LoTask) {
		for _, l := range trueAll(k) {
			want := trueScene(k, l)
			s, e := layout.Build(k, l)
			switch {
			case isWrong(want):
				if e != api.ErrDown || !reflect.ValueOf(s).IsZero() {
					t.Errorf("%+v: Build(%v) = %+v, %d", k, l, s, e)
				}
			case e != api.OK || !slices.Equal(s.Road.Columns, want.Road.Columns) || !slices.Equal(s.Lamps, want.Lamps) || !slices.Equal(s.Uses, want.Uses):
				t.Errorf("%+v: Build(%v) = %+v, %d", k, l, s, e)
			}
		}
	})
}

// P5.2, P5.3: layouts that cannot be built.
func TestWrong(t *testing.T) {
	bright := street()
	bright.Lamps[1].Lamp = 2
	left := example()
	left.Sites = left.Sites[:2]
	sparse := street()
	sparse.Sites = sparse.Sites[1:3] // one on each side
	sparse.Steps = 4
	for _, c := range []struct {
		name  string
		k     api.LoTask
		l     api.LoLayout
		wrong bool
	}{
		{"a lamp that is too bright", bright, choice(0, 1, 0, 1, api.LoBoth), true},
		{"another lamp", bright, choice(0, 0, 0, 1, api.LoBoth), false},
		{"no sites on the right", left, choice(0, 0, 0, 1, api.LoRight), true},
		{"both sides, one of which has sites", left, choice(0, 0, 0, 1, api.LoBoth), false},
		{"zigzag likewise", left, choice(0, 0, 0, 1, api.LoZigzag), false},
		{"one site on the right, step 1", sparse, choice(0, 0, 0, 1, api.LoRight), false},
		{"one site on the right, step 4", sparse, choice(0, 0, 0, 4, api.LoRight), false},
		{"one site on each side, zigzag", sparse, choice(0, 0, 0, 2, api.LoZigzag), false},
	} {
		s, e := layout.Build(c.k, c.l)
		if (e == api.ErrDown) != c.wrong || (e == api.OK) == c.wrong || c.wrong && !reflect.ValueOf(s).IsZero() {
			t.Errorf("%s: Build = %v, %d", c.name, s, e)
		}
		if n := value(t, c.k, c.l); (n == 0) != c.wrong {
			t.Errorf("%s: Value = %d", c.name, n)
		}
		if holds(t, c.k, c.l, api.LoReason{Kind: api.LoWrong}) != c.wrong || (why(t, c.k, c.l) == api.LoReason{Kind: api.LoWrong}) != c.wrong {
			t.Errorf("%s: Why = %v", c.name, why(t, c.k, c.l))
		}
	}
	right := changed(left, func(t *api.LoTask) { t.Sites = []api.LoSite{{Right: true, DY: 1}} })
	for step := 1; step <= 4; step++ { // the remainder of the only site on the right is 0
		right.Steps = 4
		if s := why(t, right, choice(0, 0, 0, step, api.LoZigzag)); (s.Kind == api.LoWrong) != (step > 1) {
			t.Errorf("step %d: Why = %v", step, s)
		}
	}
}

// P5.2: the values of the examples, and roundings.
func TestValue(t *testing.T) {
	k := example()
	for _, c := range []struct {
		l    api.LoLayout
		want int
	}{
		{choice(0, 0, 1, 1, api.LoLeft), 4260}, {choice(0, 0, 1, 1, api.LoRight), 2130}, {choice(0, 0, 1, 1, api.LoBoth), 6390}, {choice(0, 0, 1, 1, api.LoZigzag), 6390},
		{choice(1, 0, 0, 1, api.LoRight), 1618}, {choice(1, 0, 0, 1, api.LoLeft), 2*1300 + 636}, // for 63.526 kWh
	} {
		if n := value(t, k, c.l); n != c.want {
			t.Errorf("Value(%v) = %d, want %d", c.l, n, c.want)
		}
	}
	k.Goal = api.LoSaving
	if n := value(t, k, choice(0, 0, 1, 1, api.LoBoth)); n != 3*63000 {
		t.Errorf("Value = %d", n)
	}
	if n := value(t, k, choice(1, 0, 0, 1, api.LoRight)); n != 31763 {
		t.Errorf("Value = %d", n)
	}
	k.Goal = api.LoCheap
	l := choice(0, 0, 1, 1, api.LoRight) // 63 W
	for _, c := range []struct{ hours, perKwh, want int }{{0, 10, 1500}, {1000, 0, 1500}, {1000, 1, 1563}, {1, 1, 1501}, {1000, 100, 7800}, {1001, 1000, 1500 + 63063}, {127, 125, 1500 + 1001}} {
		k.Hours, k.PerKwh = c.hours, c.perKwh
		if n := value(t, k, l); n != c.want {
			t.Errorf("Value with %d hours at %d = %d, want %d", c.hours, c.perKwh, n, c.want)
		}
	}
	someTasks(t, 3, 100, func(r *rand.Rand, k api.LoTask) {
		for _, l := range trueAll(k) {
			if n := value(t, k, l); n != trueValue(k, l) {
				t.Errorf("%+v: Value(%v) = %d, want %d", k, l, n, trueValue(k, l))
			}
		}
	})
}

// P5.2, P1: the greatest numbers that there may be do not overflow.
func TestGreatestValue(t *testing.T) {
	k := example()
	for len(k.Sites) < api.MaxLoSites {
		k.Sites = append(k.Sites, k.Sites[0])
	}
	own := &k.Scene.Catalog.Lamps[0]
	own.Power, own.Standing, own.Tolerance = api.MaxPower, api.MaxPower, 1000
	k.Poles[0].Price, k.Lamps[0].Price, k.Hours, k.PerKwh = api.MaxPrice, api.MaxPrice, api.MaxLoHours, api.MaxPerKwh
	l := choice(0, 0, 1, 1, api.LoBoth)
	if n := value(t, k, l); n != 24*2*api.MaxPrice+24*10*1000000*10000 { // 240 kW for a million hours at 100 a kilowatt-hour
		t.Errorf("Value = %d", n)
	}
	k.Sky, k.Window = math.MaxInt, math.MaxInt
	if r := why(t, k, l); r != (api.LoReason{}) {
		t.Errorf("Why = %v", r)
	}
}

// P5.2 to P5.6: layouts that are none of the task.
func TestNoLayout(t *testing.T) {
	k := street()
	good := choice(1, 1, 1, 3, api.LoZigzag)
	parts := []func(l *api.LoLayout) *int{
		func(l *api.LoLayout) *int { return &l.Pole }, func(l *api.LoLayout) *int { return &l.Lamp }, func(l *api.LoLayout) *int { return &l.Level },
		func(l *api.LoLayout) *int { return &l.Step }, func(l *api.LoLayout) *int { return &l.Sides },
	}
	for i, part := range parts {
		bad := []int{-1, math.MinInt, math.MaxInt, []int{2, 2, 2, 4, 5}[i]}
		if i >= 3 {
			bad = append(bad, 0)
		}
		for _, n := range bad {
			l := good
			*part(&l) = n
			if s, e := layout.Build(k, l); !reflect.ValueOf(s).IsZero() || e != api.ErrNone {
				t.Errorf("Build(%v) = %v, %d", l, s, e)
			}
			if n, e := layout.Value(k, l); n != 0 || e != api.ErrNone {
				t.Errorf("Value(%v) = %d, %d", l, n, e)
			}
			if r, e := layout.Why(k, l); r != (api.LoReason{}) || e != api.ErrNone {
				t.Errorf("Why(%v) = %v, %d", l, r, e)
			}
			if is, e := layout.Holds(k, l, api.LoReason{Kind: api.LoWrong}); is || e != api.ErrNone {
				t.Errorf("Holds(%v) = %v, %d", l, is, e)
			}
			if n, e := layout.Lowest(k, l); n != 0 || e != api.ErrNone {
				t.Errorf("Lowest(%v) = %d, %d", l, n, e)
			}
			wantAccept(t, "no layout", k, api.LoFound{Layout: l}, -1, api.ErrNone)
		}
	}
	if n := value(t, k, good); n == 0 {
		t.Errorf("Value = %d", n)
	}
}

// scribble changes all that a scene refers to.
func scribble(s api.LtScene) {
	for _, table := range s.Catalog.Tables {
		table.Us[0], table.Vs[0] = 7, 7
		for _, row := range table.Values {
			row[0], row[1] = -7, -7
		}
	}
	clear(s.Catalog.Tables)
	clear(s.Catalog.Lamps)
	for _, r := range s.Road.Roads {
		clear(r.Points)
	}
	for _, f := range s.Road.Fronts {
		clear(f.Windows)
	}
	clear(s.Road.Roads)
	clear(s.Road.Trees)
	clear(s.Road.Fronts)
	clear(s.Road.Columns)
	clear(s.Lamps)
	clear(s.Uses)
}

// P5.13, R4: a scene that is built is new memory, also where the task has the same memory twice, or room behind a list.
func TestBuildIsNew(t *testing.T) {
	k := street()
	tables := k.Scene.Catalog.Tables
	tables[1].Vs = tables[1].Us
	tables[1].Values[1] = tables[1].Values[0]
	k.Scene.Road.Roads[1].Points = k.Scene.Road.Roads[0].Points
	columns, lamps, uses := make([]api.RdColumn, 9), []int{7, 7, 7, 7, 7, 7, 7, 7, 7}, make([]api.LmUse, 9)
	k.Scene.Road.Columns, k.Scene.Lamps, k.Scene.Uses = columns[:0], lamps[:0], uses[:0]
	before := text(k)
	l := choice(0, 0, 0, 1, api.LoBoth)
	s := build(t, k, l)
	s.Catalog.Tables[1].Us[1], s.Catalog.Tables[1].Values[0][0], s.Road.Roads[0].Points[0][0] = 8, 8, 8
	if s.Catalog.Tables[1].Vs[1] != 5000 || s.Catalog.Tables[1].Values[1][0] != 700 || s.Road.Roads[1].Points[0][0] != 0 {
		t.Errorf("two lists of a result share memory")
	}
	scribble(s)
	if text(k) != before || columns[0] != (api.RdColumn{}) || lamps[0] != 7 || uses[0] != (api.LmUse{}) {
		t.Errorf("the task has become %+v", k)
	}
	if part, _, e := light.Check(build(t, k, l)); part != 0 || e != api.OK {
		t.Errorf("%d, %d", part, e)
	}
}

// P5.12: the columns of both sides are those of one side and those of the other one.
func TestBothSides(t *testing.T) {
	someTasks(t, 4, 60, func(r *rand.Rand, k api.LoTask) {
		for _, l := range all(t, k) {
			of := func(sides int) (list []string) {
				l.Sides = sides
				s, _ := layout.Build(k, l)
				for i, c := range s.Road.Columns {
					list = append(list, c.Name)
					if c.Height != k.Poles[l.Pole].Height || s.Lamps[i] != k.Lamps[l.Lamp].Lamp || s.Uses[i].Level != k.Levels[l.Level] {
						t.Errorf("%+v: Build(%v) = %+v", k, l, s)
					}
				}
				slices.Sort(list)
				return list
			}
			both := append(of(api.LoLeft), of(api.LoRight)...)
			slices.Sort(both)
			if !slices.Equal(both, of(api.LoBoth)) || l.Step == 1 && !slices.Equal(both, of(api.LoZigzag)) {
				t.Errorf("%+v: layout %v: %v, %v", k, l, both, of(api.LoBoth))
			}
		}
	})
}
