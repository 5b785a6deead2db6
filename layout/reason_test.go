package layout_test

import (
	"math"
	"math/rand"
	"slices"
	"testing"

	"linkboy/api"
	"linkboy/layout"
	"linkboy/light"
)

func wantWhy(t *testing.T, what string, k api.LoTask, l api.LoLayout, want api.LoReason) {
	t.Helper()
	if r := why(t, k, l); r != want {
		t.Errorf("%s: Why(%v) = %+v, want %+v", what, l, r, want)
	}
}

func wantHolds(t *testing.T, what string, k api.LoTask, l api.LoLayout, r api.LoReason, want bool) {
	t.Helper()
	if is := holds(t, k, l, r); is != want {
		t.Errorf("%s: Holds(%v, %+v) = %v", what, l, r, is)
	}
}

// P5.3: the examples.
func TestWhyExamples(t *testing.T) {
	k, l := example(), choice(0, 0, 1, 1, api.LoBoth)
	wantWhy(t, "T", k, l, api.LoReason{})
	k.Sky = 120
	wantWhy(t, "T with Sky 120", k, l, api.LoReason{})
	k.Sky = 119
	wantWhy(t, "T with Sky 119", k, l, api.LoReason{Kind: api.LoSky})
}

// lit is the layout of the street whose reasons are looked at, and judged what it has.
func lit() api.LoLayout { return choice(0, 1, 1, 2, api.LoBoth) }

func judged(t *testing.T, k api.LoTask, need int) api.LtResult {
	t.Helper()
	return must[api.LtResult](t)(light.Judge(build(t, k, lit()), k.Needs[need].Road, k.Needs[need].Class))
}

// wanting returns the street, where the class of a need is changed.
func wanting(need int, do func(c *api.LtClass)) api.LoTask {
	k := street()
	do(&k.Needs[need].Class)
	return k
}

// P5.3: the light to the sky, and to windows, at the limit and above.
func TestStray(t *testing.T) {
	k := street()
	s := build(t, k, lit())
	wantWhy(t, "street", k, lit(), api.LoReason{})
	k.Sky = must[int](t)(light.Sky(s))
	wantHolds(t, "sky at the limit", k, lit(), api.LoReason{Kind: api.LoSky}, false)
	wantWhy(t, "sky at the limit", k, lit(), api.LoReason{})
	k.Sky--
	wantHolds(t, "sky above the limit", k, lit(), api.LoReason{Kind: api.LoSky}, true)
	wantWhy(t, "sky above the limit", k, lit(), api.LoReason{Kind: api.LoSky})
	k = street()
	windows := [][2]int{{0, 0}, {0, 1}, {1, 0}}
	var found []int
	for _, w := range windows {
		n := must[int](t)(light.Window(s, w[0], w[1]))
		found = append(found, n)
		r := api.LoReason{Kind: api.LoWindow, Front: w[0], Window: w[1]}
		k.Window = n
		wantHolds(t, "window at the limit", k, lit(), r, false)
		k.Window--
		wantHolds(t, "window above the limit", k, lit(), r, true)
	}
	for _, n := range append([]int{1}, found...) {
		for _, k.Window = range []int{n - 1, n} {
			at := slices.IndexFunc(found, func(n int) bool { return n > k.Window })
			want := api.LoReason{}
			if at >= 0 {
				want = api.LoReason{Kind: api.LoWindow, Front: windows[at][0], Window: windows[at][1]}
			}
			wantWhy(t, "the first window", k, lit(), want)
		}
	}
	if found[0] >= found[1] || found[1] >= found[2] || found[0] == 0 { // so that each window is the first one for some limit
		t.Errorf("windows get %v", found)
	}
}

// P5.3: each patch of a road, at the limit and below; the worst one is the reason.
func TestLeast(t *testing.T) {
	for need := range 2 {
		k := street()
		s, c, worst := build(t, k, lit()), k.Needs[need].Class, judged(t, k, need).Worst
		list := truePatches(k, k.Needs[need])
		lows := map[int]bool{}
		for i, p := range list {
			n, r := patchLo(s, c, p), api.LoReason{Kind: api.LoLeast, Need: need, Patch: i}
			at, above := wanting(need, func(c *api.LtClass) { c.Least = n }), wanting(need, func(c *api.LtClass) { c.Least = n + 1 })
			wantHolds(t, "at the limit", at, lit(), r, false)
			wantHolds(t, "below", above, lit(), r, true)
			wantWhy(t, "below", above, lit(), api.LoReason{Kind: api.LoLeast, Need: need, Patch: worst})
			if i == worst {
				wantWhy(t, "at the limit", at, lit(), api.LoReason{})
			}
			lows[n] = true
		}
		if len(lows) < 3 || worst == 0 {
			t.Errorf("need %d: too even, worst %d of %v", need, worst, lows)
		}
	}
}

// P5.3: the average, the uniformity and the glare, at the limit and beyond.
func TestWholeRoad(t *testing.T) {
	for need := range 2 {
		x := judged(t, street(), need)
		for _, c := range []struct {
			kind, found, worse int
			of                 func(c *api.LtClass) *int
		}{
			{api.LoAverage, x.Average.Lo, 1, func(c *api.LtClass) *int { return &c.Average }},
			{api.LoUniform, x.Uniform, 1, func(c *api.LtClass) *int { return &c.Uniform }},
			{api.LoGlare, x.Glare, -1, func(c *api.LtClass) *int { return &c.Glare }},
		} {
			r := api.LoReason{Kind: c.kind, Need: need}
			at := wanting(need, func(class *api.LtClass) { *c.of(class) = c.found })
			wantHolds(t, "at the limit", at, lit(), r, false)
			wantWhy(t, "at the limit", at, lit(), api.LoReason{})
			if c.kind == api.LoGlare && need == 1 { // there is no glare for LtLux
				continue
			}
			beyond := wanting(need, func(class *api.LtClass) { *c.of(class) = c.found + c.worse })
			wantHolds(t, "beyond", beyond, lit(), r, true)
			wantWhy(t, "beyond", beyond, lit(), r)
			if c.found == 0 {
				t.Errorf("kind %d of need %d is 0", c.kind, need)
			}
		}
	}
}

// P5.3, R1: of several reasons the first one, in their order.
func TestWhyOrder(t *testing.T) {
	k := street()
	k.Lamps[1].Lamp = 2 // too bright
	k.Sky, k.Window = 0, 0
	for i := range k.Needs {
		c := &k.Needs[i].Class
		c.Average, c.Least, c.Uniform, c.Glare = 1000000000, 1000000000, api.All, 0
	}
	step := func(what string, want api.LoReason, do func()) {
		t.Helper()
		wantWhy(t, what, k, lit(), want)
		wantHolds(t, what, k, lit(), want, want.Kind != api.LoNothing)
		do()
	}
	step("all", api.LoReason{Kind: api.LoWrong}, func() { k.Lamps[1].Lamp = 1 })
	step("sky", api.LoReason{Kind: api.LoSky}, func() { k.Sky = 1000000 })
	step("window", api.LoReason{Kind: api.LoWindow}, func() { k.Window = 1000000 })
	for n := range k.Needs {
		c := &k.Needs[n].Class
		worst := judged(t, k, n).Worst
		step("least", api.LoReason{Kind: api.LoLeast, Need: n, Patch: worst}, func() { c.Least = 0 })
		step("average", api.LoReason{Kind: api.LoAverage, Need: n}, func() { c.Average = 0 })
		step("uniform", api.LoReason{Kind: api.LoUniform, Need: n}, func() { c.Uniform = 0 })
		if n == 0 {
			step("glare", api.LoReason{Kind: api.LoGlare, Need: n}, func() { c.Glare = api.MaxGlare })
		}
	}
	step("nothing", api.LoReason{}, func() {})
}

// P5.3: where LoWrong holds, no other reason does.
func TestWrongAlone(t *testing.T) {
	k := street()
	k.Lamps[1].Lamp = 2
	k.Sky, k.Window = 0, 0
	for i := range k.Needs {
		c := &k.Needs[i].Class
		c.Average, c.Least, c.Uniform, c.Glare = 1000000000, 1000000000, api.All, 0
	}
	for _, l := range []api.LoLayout{lit(), choice(0, 0, 0, 1, api.LoBoth)} {
		for kind := -1; kind <= 9; kind++ {
			r := api.LoReason{Kind: kind}
			wrong := l.Lamp == 1
			want := wrong == (kind == api.LoWrong) && kind >= api.LoWrong && kind <= api.LoGlare
			wantHolds(t, "too bright", k, l, r, want)
		}
	}
	k = example()
	k.Sites, k.Sky = k.Sites[:2], 0
	wantHolds(t, "no columns", k, choice(0, 0, 0, 1, api.LoRight), api.LoReason{Kind: api.LoWrong}, true)
	wantHolds(t, "no columns", k, choice(0, 0, 0, 1, api.LoRight), api.LoReason{Kind: api.LoSky}, false)
	wantHolds(t, "columns", k, choice(0, 0, 0, 1, api.LoLeft), api.LoReason{Kind: api.LoSky}, true)
}

// P5.3: a reason whose indices are not as stated does not hold.
func TestIndices(t *testing.T) {
	k := street()
	k.Sky, k.Window = 0, 0
	for i := range k.Needs {
		c := &k.Needs[i].Class
		c.Average, c.Least, c.Uniform, c.Glare = 1000000000, 1000000000, api.All, 0
	}
	k.Needs[1].Class.Kind = api.LtBright // so that it has glare
	wrong := changed(street(), func(t *api.LoTask) { t.Lamps[1].Lamp = 2 })
	last := len(truePatches(k, k.Needs[1])) - 1
	for _, r := range []api.LoReason{
		{Kind: api.LoWrong}, {Kind: api.LoSky}, {Kind: api.LoWindow, Front: 0, Window: 1}, {Kind: api.LoWindow, Front: 1, Window: 0},
		{Kind: api.LoLeast, Need: 1, Patch: 0}, {Kind: api.LoLeast, Need: 1, Patch: last}, {Kind: api.LoAverage, Need: 1}, {Kind: api.LoUniform, Need: 1}, {Kind: api.LoGlare, Need: 1},
	} {
		at := k
		if r.Kind == api.LoWrong {
			at = wrong
		}
		wantHolds(t, "as stated", at, lit(), r, true)
		for i, part := range []func(r *api.LoReason) *int{
			func(r *api.LoReason) *int { return &r.Need }, func(r *api.LoReason) *int { return &r.Patch },
			func(r *api.LoReason) *int { return &r.Front }, func(r *api.LoReason) *int { return &r.Window }, func(r *api.LoReason) *int { return &r.Kind },
		} {
			for _, n := range []int{-1, math.MinInt, math.MaxInt, []int{2, last + 1, 2, *part(&r) + 2, 8}[i]} {
				bad := r
				*part(&bad) = n
				wantHolds(t, "another index", at, lit(), bad, false)
			}
		}
	}
	for _, r := range []api.LoReason{{}, {Kind: api.LoSky, Need: 1}, {Kind: api.LoWindow, Need: 1}, {Kind: api.LoWindow, Patch: 1}, {Kind: api.LoLeast, Front: 1}, {Kind: api.LoAverage, Patch: 1}, {Kind: api.LoGlare, Window: 1}} {
		wantHolds(t, "an index too many", k, lit(), r, false)
	}
	wantHolds(t, "an index too many", wrong, lit(), api.LoReason{Kind: api.LoWrong, Need: 1}, false)
	// Without needs, and without windows, none can fail.
	k.Needs, k.Scene.Road.Fronts = nil, nil
	for kind := api.LoWindow; kind <= api.LoGlare; kind++ {
		wantHolds(t, "none", k, lit(), api.LoReason{Kind: kind}, false)
	}
}

// P5.3: patches at the border of the range are cut, and those outside do not count.
func TestCutPatches(t *testing.T) {
	far := api.MaxRdPlace
	for _, sign := range []int{1, -1} {
		k := street()
		k.Scene.Road = api.RdScene{Roads: []api.RdRoad{{Name: "edge", Points: [][2]int{{sign * (far - 3000), sign * far}, {sign * far, sign * far}}, Width: 9000}}}
		k.Sites = []api.LoSite{{X: sign * (far - 2000), Y: sign * (far - 2000), DX: 1}}
		for _, kind := range []int{api.LtLux, api.LtBright} {
			c := anything(kind)
			c.Step, c.Least = 1500, 1000000000
			k.Needs = []api.LoNeed{{Class: c}}
			list := truePatches(k, k.Needs[0])
			l := choice(0, 1, 1, 1, api.LoLeft)
			wantHolds(t, "the last patch", k, l, api.LoReason{Kind: api.LoLeast, Patch: len(list) - 1}, true)
			wantHolds(t, "behind the last patch", k, l, api.LoReason{Kind: api.LoLeast, Patch: len(list)}, false)
			wantWhy(t, "edge", k, l, trueWhy(k, l))
			for i, p := range list {
				n := patchLo(build(t, k, l), c, p)
				k.Needs[0].Class.Least = n
				wantHolds(t, "at the limit", k, l, api.LoReason{Kind: api.LoLeast, Patch: i}, false)
				k.Needs[0].Class.Least = n + 1
				wantHolds(t, "below", k, l, api.LoReason{Kind: api.LoLeast, Patch: i}, true)
			}
		}
	}
}

// P5.3, P5.10: against the definitions: why, and which reasons hold of those that do and some that do not.
func TestReasons(t *testing.T) {
	kinds := map[int]int{}
	someTasks(t, 5, 200, func(r *rand.Rand, k api.LoTask) {
		for range 6 {
			list := all(t, k)
			l := list[r.Intn(len(list))]
			want := trueWhy(k, l)
			wantWhy(t, text(k), k, l, want)
			kinds[want.Kind]++
			wantHolds(t, text(k), k, l, want, want != api.LoReason{})
			hold := trueReasons(k, l)
			for _, x := range hold {
				if r.Intn(len(hold)) < 4 {
					wantHolds(t, text(k), k, l, x, true)
				}
			}
			for range 6 {
				x := someReason(r)
				wantHolds(t, text(k), k, l, x, slices.Contains(hold, x))
			}
		}
	})
	for kind := api.LoNothing; kind <= api.LoGlare; kind++ {
		if kinds[kind] < 3 {
			t.Errorf("only %d of kind %d", kinds[kind], kind)
		}
	}
}

// someReason returns a reason that may have any indices, mostly of its kind.
func someReason(r *rand.Rand) api.LoReason {
	x := api.LoReason{Kind: between(r, -1, 8)}
	if x.Kind == api.LoWindow || r.Intn(16) == 0 {
		x.Front, x.Window = between(r, -1, 2), between(r, -1, 3)
	}
	if x.Kind >= api.LoLeast || r.Intn(16) == 0 {
		x.Need = between(r, -1, 2)
	}
	if x.Kind == api.LoLeast || r.Intn(16) == 0 {
		x.Patch = between(r, -1, 30)
	}
	return x
}

// P5.2 to P5.6, R2: the error of Check comes first, and the other results are zero.
func TestErrorOfCheckFirst(t *testing.T) {
	for _, c := range changes() {
		k := changed(street(), c.do)
		for _, l := range []api.LoLayout{lit(), choice(-1, 7, 0, 0, 5)} {
			zeros, errors := results(k, l, api.LoReason{Kind: api.LoSky}, api.LoFound{Layout: l})
			for i := range zeros {
				if errors[i] != c.e || !zeros[i] {
					t.Errorf("%s: function %d returns %d, want %d", c.name, i, errors[i], c.e)
				}
			}
		}
	}
	if _, e := layout.All(api.LoTask{}); e != api.ErrNone { // the surface 0 is none
		t.Errorf("All of nothing: %d", e)
	}
}
