package layout_test

import (
	"math"
	"math/rand"
	"reflect"
	"slices"
	"testing"

	"linkboy/api"
	"linkboy/layout"
)

// results returns for all functions but Check whether their results are zero, and their errors.
func results(k api.LoTask, l api.LoLayout, x api.LoReason, f api.LoFound) (zeros []bool, errors []api.Errno) {
	take := func(result any, e api.Errno) {
		zeros, errors = append(zeros, reflect.ValueOf(result).IsZero()), append(errors, e)
	}
	list, e := layout.All(k)
	take(list, e)
	s, e := layout.Build(k, l)
	take(s, e)
	n, e := layout.Value(k, l)
	take(n, e)
	r, e := layout.Why(k, l)
	take(r, e)
	is, e := layout.Holds(k, l, x)
	take(is, e)
	b, e := layout.Best(k)
	take(b, e)
	list, e = layout.Trade(k)
	take(list, e)
	n, e = layout.Lowest(k, l)
	take(n, e)
	n, e = layout.Accept(k, f)
	take(n, e)
	return zeros, errors
}

var ends = []int{math.MinInt, math.MinInt + 1, -api.MaxRdPlace - 1, -1, 0, 1, 2, 3, 4, 7, 1000, 1 << 40, math.MaxInt - 1, math.MaxInt}

// spoilTask sets some numbers of a task to any ones.
func spoilTask(r *rand.Rand, k *api.LoTask) {
	end := func() int { return ends[r.Intn(len(ends))] }
	pick := func(n int) int { return r.Intn(max(n, 1)) }
	site, pole, lamp, level, need := pick(len(k.Sites)), pick(len(k.Poles)), pick(len(k.Lamps)), pick(len(k.Levels)), pick(len(k.Needs))
	list := []func(){
		func() { k.Sites[site].X = end() }, func() { k.Sites[site].DX = end() }, func() { k.Sites[site].DX, k.Sites[site].DY = 0, 0 },
		func() { k.Poles[pole].Height = end() }, func() { k.Poles[pole].Price = end() },
		func() { k.Lamps[lamp].Lamp = end() }, func() { k.Lamps[lamp].Hours = end() }, func() { k.Lamps[lamp].Price = end() },
		func() { k.Levels[level] = end() }, func() { k.Steps = end() }, func() { k.Sky = end() }, func() { k.Window = end() },
		func() { k.Goal = end() }, func() { k.Hours = end() }, func() { k.PerKwh = end() },
		func() { k.Needs[need].Road = end() }, func() { k.Needs[need].Class.Kind = end() }, func() { k.Needs[need].Class.Step = end() },
		func() { k.Scene.Surface = end() }, func() { k.Scene.Lamps = make([]int, 3) }, func() { addColumn(k) },
	}
	wildly(list[r.Intn(len(list))])
}

// P5.13, P1, R2: no arguments panic, or are changed; with an error the other results are zero.
func TestAnyArguments(t *testing.T) {
	r := rand.New(rand.NewSource(13))
	end := func() int { return ends[r.Intn(len(ends))] }
	index := func() int { return []int{0, 1, end()}[r.Intn(3)] }
	valid := 0
	for range 1500 {
		k := someTask(r)
		k.Poles, k.Lamps = k.Poles[:1], k.Lamps[:1]
		for range r.Intn(3) {
			spoilTask(r, &k)
		}
		l := choice(index(), index(), index(), 1+index(), 1+index())
		x := api.LoReason{Kind: index(), Need: index(), Patch: index(), Front: index(), Window: index()}
		f := api.LoFound{Layout: l, Value: end(), Reasons: make([]api.LoReason, r.Intn(5))}
		before := text(k) + text(f)
		zeros, errors := results(k, l, x, f)
		for i, zero := range zeros {
			if errors[i] != api.OK && !zero && i != len(zeros)-1 { // the last one is Accept
				t.Fatalf("%+v, %v: function %d returns a result with %d", k, l, i, errors[i])
			}
		}
		part, at, e := layout.Check(k)
		if e == api.OK && (part != 0 || at != 0) {
			t.Fatalf("%+v: Check = %d, %d, OK", k, part, at)
		}
		if e == api.OK {
			valid++
		}
		if text(k)+text(f) != before {
			t.Fatalf("%s has become %s%s", before, text(k), text(f))
		}
	}
	if valid < 300 || valid > 1200 {
		t.Errorf("%d of 1500 are valid", valid)
	}
}

// P5.13, R3, R4: results are new memory; what is done to them changes no other result.
func TestResultsAreNew(t *testing.T) {
	k := street()
	k.Needs[0].Class.Least = judged(t, k, 0).Least.Lo
	k.Scene.Road.Trees = nil
	before := text(k)
	list, front, f := all(t, k), trade(t, k), best(t, k)
	kept := text(list) + text(front) + text(f)
	clear(slices.Clip(list))
	clear(front)
	clear(f.Reasons)
	k.Scene.Road.Trees = []api.RdTree{}
	k.Scene.Road.Columns, k.Scene.Lamps, k.Scene.Uses = []api.RdColumn{}, []int{}, []api.LmUse{}
	if text(all(t, k))+text(trade(t, k))+text(best(t, k)) != kept {
		t.Errorf("other results")
	}
	k.Scene.Road.Trees, k.Scene.Road.Columns, k.Scene.Lamps, k.Scene.Uses = nil, nil, nil, nil
	if text(k) != before {
		t.Errorf("%s has become %s", before, text(k))
	}
}

// P5.4, P5.6, P1: the greatest task ends in good time, and nothing is judged twice without need.
func TestGreatestTask(t *testing.T) {
	k := street()
	k.Levels, k.Steps = []int{100, 400, 700, 1000}, 4
	k.Lamps = append(k.Lamps, k.Lamps...)
	for len(k.Sites) < api.MaxLoSites {
		k.Sites = append(k.Sites, k.Sites[len(k.Sites)-8])
	}
	k.Poles = k.Poles[:1]
	k.Needs[0].Class.Uniform = api.All // which none has
	if n := len(all(t, k)); n != api.MaxLayouts {
		t.Errorf("%d layouts", n)
	}
	if _, e := layout.Best(k); e != api.ErrDown {
		t.Errorf("Best: %d", e)
	}
	k.Needs[0].Class.Uniform = 0
	k.Sky = 0
	if list := trade(t, k); len(list) != 0 {
		t.Errorf("Trade = %v", list)
	}
}
