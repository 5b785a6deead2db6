package layout_test

import (
	"math/big"
	"slices"
	"strconv"

	"linkboy/api"
	"linkboy/light"
	"linkboy/road"
)

// A second reading of the chapter's definitions, one after the other and without haste: nothing is kept, and nothing
// is left out because it cannot matter.

// trueAll returns all layouts of a task.
func trueAll(t api.LoTask) []api.LoLayout {
	var list []api.LoLayout
	for pole := range t.Poles {
		for lamp := range t.Lamps {
			for level := range t.Levels {
				for step := 1; step <= t.Steps; step++ {
					for _, sides := range []int{api.LoLeft, api.LoRight, api.LoBoth, api.LoZigzag} {
						list = append(list, choice(pole, lamp, level, step, sides))
					}
				}
			}
		}
	}
	return list
}

// trueColumns returns the indices of the sites that a layout takes.
func trueColumns(t api.LoTask, l api.LoLayout) []int {
	of := func(right bool, remainder int) (list []int) {
		var side []int
		for i, s := range t.Sites {
			if s.Right == right {
				side = append(side, i)
			}
		}
		for number, i := range side {
			if number%l.Step == remainder {
				list = append(list, i)
			}
		}
		return list
	}
	var list []int
	switch l.Sides {
	case api.LoLeft:
		list = of(false, 0)
	case api.LoRight:
		list = of(true, 0)
	case api.LoBoth:
		list = append(of(false, 0), of(true, 0)...)
	case api.LoZigzag:
		list = append(of(false, 0), of(true, l.Step/2)...)
	}
	slices.Sort(list)
	return list
}

// trueScene returns the scene of a layout.
func trueScene(t api.LoTask, l api.LoLayout) api.LtScene {
	s := t.Scene
	s.Road.Columns, s.Lamps, s.Uses = nil, nil, nil
	own := t.Lamps[l.Lamp]
	for _, i := range trueColumns(t, l) {
		p := t.Sites[i]
		c := api.RdColumn{Name: "c" + strconv.Itoa(i), X: p.X, Y: p.Y, DX: p.DX, DY: p.DY, Height: t.Poles[l.Pole].Height}
		s.Road.Columns = append(s.Road.Columns, c)
		s.Lamps = append(s.Lamps, own.Lamp)
		s.Uses = append(s.Uses, api.LmUse{Hours: own.Hours, Months: own.Months, Level: t.Levels[l.Level]})
	}
	return s
}

func isWrong(s api.LtScene) bool {
	_, _, e := light.Check(s)
	return e != api.OK || len(s.Road.Columns) == 0
}

// trueCost returns the cost and the power of a layout; 0, if it cannot be built.
func trueCost(t api.LoTask, l api.LoLayout) (cost, power int) {
	s := trueScene(t, l)
	if isWrong(s) {
		return 0, 0
	}
	x, _ := light.Power(s)
	energy := big.NewInt(int64(x.Hi))
	energy.Mul(energy, big.NewInt(int64(t.Hours))).Mul(energy, big.NewInt(int64(t.PerKwh)))
	cents, rest := new(big.Int).DivMod(energy, big.NewInt(1000000), new(big.Int))
	cost = int(cents.Int64()) + len(s.Lamps)*t.Poles[l.Pole].Price + len(s.Lamps)*t.Lamps[l.Lamp].Price
	if rest.Sign() != 0 {
		cost++
	}
	return cost, x.Hi
}

func trueValue(t api.LoTask, l api.LoLayout) int {
	cost, power := trueCost(t, l)
	if t.Goal == api.LoCheap {
		return cost
	}
	return power
}

// truePatches returns the patches of the road of a need.
func truePatches(t api.LoTask, n api.LoNeed) (list []api.RdPatch) {
	squares, _ := road.Patches(t.Scene.Road, n.Road, n.Class.Step)
	far := api.MaxRdPlace
	for _, p := range squares {
		q := api.RdPatch{X0: max(p.X0, -far), Y0: max(p.Y0, -far), X1: min(p.X1, far), Y1: min(p.Y1, far)}
		if q.X0 <= q.X1 && q.Y0 <= q.Y1 {
			list = append(list, q)
		}
	}
	return list
}

// patchLo returns the Lo of the value of a patch.
func patchLo(s api.LtScene, c api.LtClass, p api.RdPatch) int {
	if c.Kind == api.LtLux {
		x, _ := light.Lux(s, p)
		return x.Lo
	}
	x, _ := light.Bright(s, p, c.DX, c.DY)
	return x.Lo
}

// trueReasons returns all reasons that hold for a layout: kind by kind, but those of the needs need by need.
func trueReasons(t api.LoTask, l api.LoLayout) (list []api.LoReason) {
	s := trueScene(t, l)
	if isWrong(s) {
		return []api.LoReason{{Kind: api.LoWrong}}
	}
	if n, _ := light.Sky(s); n > t.Sky {
		list = append(list, api.LoReason{Kind: api.LoSky})
	}
	for f, front := range s.Road.Fronts {
		for w := range front.Windows {
			if n, _ := light.Window(s, f, w); n > t.Window {
				list = append(list, api.LoReason{Kind: api.LoWindow, Front: f, Window: w})
			}
		}
	}
	for n, need := range t.Needs {
		c := need.Class
		for i, p := range truePatches(t, need) {
			if patchLo(s, c, p) < c.Least {
				list = append(list, api.LoReason{Kind: api.LoLeast, Need: n, Patch: i})
			}
		}
		x, _ := light.Judge(s, need.Road, c)
		for kind, fails := range map[int]bool{api.LoAverage: x.Average.Lo < c.Average, api.LoUniform: x.Uniform < c.Uniform, api.LoGlare: x.Glare > c.Glare} {
			if fails {
				list = append(list, api.LoReason{Kind: kind, Need: n})
			}
		}
	}
	return list
}

// trueWhy returns the reason why a layout does not do.
func trueWhy(t api.LoTask, l api.LoLayout) api.LoReason {
	list := trueReasons(t, l)
	first := func(kind, need int) (r api.LoReason, is bool) {
		i := slices.IndexFunc(list, func(r api.LoReason) bool { return r.Kind == kind && r.Need == need })
		if i < 0 {
			return r, false
		}
		return list[i], true
	}
	for kind := api.LoWrong; kind <= api.LoWindow; kind++ {
		if r, is := first(kind, 0); is {
			return r
		}
	}
	for n, need := range t.Needs {
		for kind := api.LoLeast; kind <= api.LoGlare; kind++ {
			r, is := first(kind, n)
			if is && kind == api.LoLeast {
				x, _ := light.Judge(trueScene(t, l), need.Road, need.Class)
				r.Patch = x.Worst
			}
			if is {
				return r
			}
		}
	}
	return api.LoReason{}
}

// trueBetter returns the layouts that are better than one.
func trueBetter(t api.LoTask, than api.LoLayout) (list []api.LoLayout) {
	before := true
	for _, l := range trueAll(t) {
		if l == than {
			before = false
		}
		n, own := trueValue(t, l), trueValue(t, than)
		if n < own || n == own && before {
			list = append(list, l)
		}
	}
	return list
}

// trueBest returns the best layout, if one does.
func trueBest(t api.LoTask) (f api.LoFound, is bool) {
	for _, l := range trueAll(t) {
		if len(trueReasons(t, l)) == 0 && (!is || trueValue(t, l) < f.Value) {
			f, is = api.LoFound{Layout: l, Value: trueValue(t, l)}, true
		}
	}
	if is {
		for _, l := range trueBetter(t, f.Layout) {
			f.Reasons = append(f.Reasons, trueWhy(t, l))
		}
	}
	return f, is
}

// trueAccept returns what Accept must return for a task that is valid.
func trueAccept(t api.LoTask, f api.LoFound) (at int, e api.Errno) {
	switch {
	case !slices.Contains(trueAll(t), f.Layout):
		return -1, api.ErrNone
	case f.Value != trueValue(t, f.Layout):
		return -1, api.LoErrValue
	case len(trueReasons(t, f.Layout)) > 0:
		return -1, api.LoErrWhy
	}
	list := trueBetter(t, f.Layout)
	if len(f.Reasons) != len(list) {
		return -1, api.LoErrCount
	}
	for i, l := range list {
		if !slices.Contains(trueReasons(t, l), f.Reasons[i]) {
			return i, api.LoErrReason
		}
	}
	return 0, api.OK
}

// trueTrade returns what Trade must return.
func trueTrade(t api.LoTask) (list []api.LoLayout) {
	var good []api.LoLayout
	for _, l := range trueAll(t) {
		if len(trueReasons(t, l)) == 0 {
			good = append(good, l)
		}
	}
	for i, l := range good {
		cost, power := trueCost(t, l)
		if !slices.ContainsFunc(good, func(o api.LoLayout) bool {
			c, p := trueCost(t, o)
			return c <= cost && p <= power && (c < cost || p < power)
		}) && !slices.ContainsFunc(good[:i], func(o api.LoLayout) bool {
			c, p := trueCost(t, o)
			return c == cost && p == power
		}) {
			list = append(list, l)
		}
	}
	return list
}
