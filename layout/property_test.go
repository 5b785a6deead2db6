package layout_test

import (
	"math/rand"
	"slices"
	"testing"

	"linkboy/api"
	"linkboy/layout"
	"linkboy/light"
)

// judgedOf returns the light of the first need of a layout.
func judgedOf(t *testing.T, k api.LoTask, l api.LoLayout) api.LtResult {
	t.Helper()
	return must[api.LtResult](t)(light.Judge(build(t, k, l), k.Needs[0].Road, k.Needs[0].Class))
}

// P5.8, P3: with a layout that does no point of the road of a need has less than its least.
func TestPointsAreLit(t *testing.T) {
	points := 0
	someTasks(t, 10, 150, func(r *rand.Rand, k api.LoTask) {
		f, e := layout.Best(k)
		if e != api.OK {
			return
		}
		s := build(t, k, f.Layout)
		for _, n := range k.Needs {
			for range 20 {
				p, ok := pointOn(r, s.Road, n.Road)
				if !ok {
					continue
				}
				x, _ := light.Lux(s, p)
				if n.Class.Kind == api.LtBright {
					x, _ = light.Bright(s, p, n.Class.DX, n.Class.DY)
				}
				if x.Hi < n.Class.Least {
					t.Errorf("%+v: %+v does, but at %v there is %v", k, f.Layout, p, x)
				}
				if n.Class.Least > 0 {
					points++
				}
			}
		}
	})
	if points < 500 {
		t.Errorf("only %d points", points)
	}
}

// easier returns a task that asks for less.
func easier(r *rand.Rand, k api.LoTask) api.LoTask {
	k.Needs = slices.Clone(k.Needs)
	for i := range k.Needs {
		c := &k.Needs[i].Class
		switch r.Intn(5) {
		case 0:
			c.Average = r.Intn(c.Average + 1)
		case 1:
			c.Least = r.Intn(c.Least + 1)
		case 2:
			c.Uniform = r.Intn(c.Uniform + 1)
		case 3:
			c.Glare = between(r, c.Glare, api.MaxGlare)
		}
	}
	if n := len(k.Needs); n > 0 && r.Intn(3) == 0 {
		at := r.Intn(n)
		k.Needs = slices.Delete(k.Needs, at, at+1)
	}
	if r.Intn(3) == 0 {
		k.Sky += r.Intn(200)
		k.Window += r.Intn(200)
	}
	return k
}

// richer returns a task with more choices.
func richer(r *rand.Rand, k api.LoTask) api.LoTask {
	switch r.Intn(3) {
	case 0:
		k.Poles = append(slices.Clone(k.Poles), api.LoPole{Height: between(r, 20, 200), Price: r.Intn(500)})
	case 1:
		k.Lamps = append(slices.Clone(k.Lamps), api.LoLamp{Lamp: r.Intn(5), Price: r.Intn(500)})
	default:
		k.Steps++
	}
	return k
}

// P5.9
func TestEasier(t *testing.T) {
	someTasks(t, 11, 80, func(r *rand.Rand, k api.LoTask) {
		f, e := layout.Best(k)
		less := easier(r, k)
		for _, l := range all(t, k) {
			if r.Intn(4) == 0 && why(t, k, l) == (api.LoReason{}) && why(t, less, l) != (api.LoReason{}) {
				t.Errorf("%+v: %v does, but not with %+v", k, l, less)
			}
		}
		if e != api.OK {
			return
		}
		for _, other := range []api.LoTask{less, richer(r, k)} {
			if g := best(t, other); g.Value > f.Value {
				t.Errorf("%+v: Best = %+v, with %+v %+v", k, f, other, g)
			}
		}
	})
}

// P5.7: no layout of a task that does has a lesser value than the best one, and each better one has a reason that holds.
func TestNothingIsBetter(t *testing.T) {
	someTasks(t, 12, 60, func(r *rand.Rand, k api.LoTask) {
		f, e := layout.Best(k)
		for _, l := range all(t, k) {
			if r.Intn(4) == 0 && why(t, k, l) == (api.LoReason{}) && (e != api.OK || value(t, k, l) < f.Value) {
				t.Errorf("%+v: Best = %+v, %d, but %v does", k, f, e, l)
			}
		}
		if e != api.OK {
			return
		}
		for i, l := range trueBetter(k, f.Layout) {
			if r.Intn(4) == 0 && (!holds(t, k, l, f.Reasons[i]) || f.Reasons[i] != why(t, k, l)) {
				t.Errorf("%+v: %+v is no reason of %v", k, f.Reasons[i], l)
			}
		}
	})
}
