package road_test

import (
	"math"
	"math/rand"
	"reflect"
	"slices"
	"testing"

	"linkboy/api"
	"linkboy/road"
)

// clone returns a scene that shares no memory with s.
func clone(s api.RdScene) api.RdScene {
	c := api.RdScene{Roads: slices.Clone(s.Roads), Trees: slices.Clone(s.Trees), Fronts: slices.Clone(s.Fronts), Columns: slices.Clone(s.Columns)}
	for i := range c.Roads {
		c.Roads[i].Points = slices.Clone(c.Roads[i].Points)
	}
	for i := range c.Fronts {
		c.Fronts[i].Windows = slices.Clone(c.Fronts[i].Windows)
	}
	return c
}

// results returns the results of all functions but Check, and their errors.
func results(s api.RdScene, at, x, y int, p api.RdPatch) (list []any, errors []api.Errno) {
	take := func(result any, e api.Errno) { list, errors = append(list, result), append(errors, e) }
	on, e := road.On(s, at, x, y)
	take(on, e)
	n, e := road.Meets(s, at, p)
	take(n, e)
	squares, e := road.Patches(s, at, x)
	take(squares, e)
	standing, e := road.Standing(s)
	take(standing, e)
	junctions, e := road.Junctions(s)
	take(junctions, e)
	bends, e := road.Bends(s, at)
	take(bends, e)
	tree, e := road.Shaded(s, at, x, y)
	take(tree, e)
	n, e = road.Shade(s, at, p)
	take(n, e)
	faces, e := road.Faces(s, at, x)
	take(faces, e)
	box, e := road.Window(s, at, x)
	take(box, e)
	return list, errors
}

// P3.2 to P3.6, R2: the error of Check comes first, and the other results are zero.
func TestErrorOfCheckFirst(t *testing.T) {
	check := func(what string, s api.RdScene, e api.Errno) {
		t.Helper()
		for _, bad := range []int{0, -1, math.MaxInt} { // good arguments, and bad ones
			list, errors := results(s, bad, bad, bad, patch(bad, bad, 0, 0))
			for i := range list {
				if errors[i] != e || !reflect.ValueOf(list[i]).IsZero() {
					t.Errorf("%s: function %d returns %v, %d, want %d", what, i, list[i], errors[i], e)
				}
			}
		}
	}
	for _, c := range changes() {
		s := two()
		c.do(&s)
		check(c.name, s, c.e)
	}
	s := two()
	s.Trees = make([]api.RdTree, 13)
	check("trees", s, api.ErrLong)
}

// wildScene returns a scene with any mistakes in it.
func wildScene(r *rand.Rand) api.RdScene {
	s := two()
	if r.Intn(2) == 0 {
		s = sizes[r.Intn(3)].scene(r)
	}
	all := changes()
	for range r.Intn(3) {
		wildly(func() { all[r.Intn(len(all))].do(&s) })
	}
	end := func() int { return []int{math.MinInt, math.MaxInt, -1, 0, 1 << 40}[r.Intn(5)] }
	if r.Intn(4) == 0 {
		s.Roads[0].Points, s.Roads[0].Width = [][2]int{{end(), end()}, {end(), end()}}, end()
		s.Columns[0].Height, s.Trees[0].R = end(), end()
	}
	return s
}

// wildly does what may panic, because a change is not possible in a scene that is changed already.
func wildly(do func()) {
	defer func() { _ = recover() }()
	do()
}

// P3.12, P1: no arguments panic, or are changed.
func TestAnyArguments(t *testing.T) {
	r := rand.New(rand.NewSource(31))
	far := api.MaxRdPlace
	ends := []int{math.MinInt, math.MinInt + 1, -far - 1, -far, -1, 0, 1, 2, 100, 1000, far, far + 1, math.MaxInt - 1, math.MaxInt}
	end := func() int { return ends[r.Intn(len(ends))] }
	for range 5000 {
		s := wildScene(r)
		kept := clone(s)
		at := []int{0, 0, 1, end()}[r.Intn(4)]
		list, errors := results(s, at, end(), end(), patch(end(), end(), end(), end()))
		for i := range list {
			if errors[i] != api.OK && !reflect.ValueOf(list[i]).IsZero() {
				t.Fatalf("function %d returns %v with %d", i, list[i], errors[i])
			}
		}
		if part, at, e := road.Check(s); e == api.OK && (part != 0 || at != 0) {
			t.Fatalf("Check = %d, %d, OK", part, at)
		}
		if !reflect.DeepEqual(s, kept) {
			t.Fatalf("%v has become %v", kept, s)
		}
	}
}

// P3.12, R3: nil and empty lists are the same.
func TestNilAndEmpty(t *testing.T) {
	for _, s := range []api.RdScene{{}, {Roads: []api.RdRoad{}, Trees: []api.RdTree{}, Fronts: []api.RdFront{}, Columns: []api.RdColumn{}}} {
		wantCheck(t, "empty", s, 0, 0, api.OK)
		if list, e := road.Standing(s); len(list) != 0 || e != api.OK {
			t.Errorf("Standing = %v, %d", list, e)
		}
		if _, e := road.On(s, 0, 0, 0); e != api.ErrNone {
			t.Errorf("On: %d", e)
		}
	}
	for _, empty := range [][]api.RdWindow{nil, {}} {
		s := example()
		s.Fronts[0].Windows = empty
		wantCheck(t, "no windows", s, 0, 0, api.OK)
		if _, e := road.Window(s, 0, 0); e != api.ErrNone {
			t.Errorf("Window: %d", e)
		}
	}
}

// P3.12, R4: the lists of a result share no memory, with each other, with the argument or with those of another call.
func TestResultsAreNewMemory(t *testing.T) {
	s := api.RdScene{Roads: []api.RdRoad{
		{Name: "a", Points: [][2]int{{0, 0}, {1000, 0}, {0, 0}}, Width: 100},
		{Name: "b", Points: [][2]int{{1000, 0}, {0, 0}, {1000, 0}}, Width: 100},
	}, Columns: []api.RdColumn{{Name: "c", Height: 1, DX: 1}}}
	kept := clone(s)
	list, _ := results(s, 0, 1000, 0, patch(0, 0, 0, 0))
	again, _ := results(s, 0, 1000, 0, patch(0, 0, 0, 0))
	junctions := list[4].([]api.RdJunction)
	if len(junctions) != 2 {
		t.Fatalf("Junctions = %v", junctions)
	}
	fill(junctions[0].Roads, 7)
	fill(junctions[1].Roads, 8)
	if !slices.Equal(junctions[0].Roads, []int{7, 7}) {
		t.Errorf("the junctions share memory: %v", junctions)
	}
	fill(junctions, api.RdJunction{})
	fill(list[2].([]api.RdPatch), patch(9, 9, 9, 9))
	fill(list[3].([]int), 9)
	fill(list[5].([]int), 9)
	if now, _ := results(s, 0, 1000, 0, patch(0, 0, 0, 0)); !reflect.DeepEqual(now, again) || !reflect.DeepEqual(s, kept) {
		t.Errorf("results are %v, and were %v", now, again)
	}
}

// fill sets all elements of a list, also behind its end.
func fill[T any](list []T, value T) {
	list = list[:cap(list)]
	for i := range list {
		list[i] = value
	}
}
