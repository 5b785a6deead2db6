package layout

import (
	"iter"

	"linkboy/api"
	"linkboy/light"
	"linkboy/road"
)

// Why returns why a layout does not do.
func Why(t api.LoTask, l api.LoLayout) (api.LoReason, api.Errno) {
	if e := checkLayout(&t, l); e != api.OK {
		return api.LoReason{}, e
	}
	return newTrial(&t, l).why(), api.OK
}

// Holds reports whether a reason holds for a layout.
func Holds(t api.LoTask, l api.LoLayout, r api.LoReason) (bool, api.Errno) {
	if e := checkLayout(&t, l); e != api.OK {
		return false, e
	}
	return newTrial(&t, l).holds(r), api.OK
}

// does reports whether the layout does.
func (c *trial) does() bool { return c.why() == api.LoReason{} }

// why returns the first reason that holds for the layout, or the zero reason.
func (c *trial) why() api.LoReason {
	for r := range c.reasons() {
		if c.holds(r) {
			return r
		}
	}
	return api.LoReason{}
}

// reasons yields the reasons that may be the first one that holds, in their order. That of the least value is asked for
// only after those before it: to judge a road takes long, and a scene that is wrong cannot be judged.
func (c *trial) reasons() iter.Seq[api.LoReason] {
	return func(yield func(api.LoReason) bool) {
		if !yield(api.LoReason{Kind: api.LoWrong}) || !yield(api.LoReason{Kind: api.LoSky}) {
			return
		}
		for f, front := range c.scene.Road.Fronts {
			for w := range front.Windows {
				if !yield(api.LoReason{Kind: api.LoWindow, Front: f, Window: w}) {
					return
				}
			}
		}
		for n := range c.task.Needs {
			if !yield(api.LoReason{Kind: api.LoLeast, Need: n, Patch: c.judge(n).Worst}) {
				return
			}
			for kind := api.LoAverage; kind <= api.LoGlare; kind++ {
				if !yield(api.LoReason{Kind: kind, Need: n}) {
					return
				}
			}
		}
	}
}

// holds reports whether a reason holds for the layout.
func (c *trial) holds(r api.LoReason) bool {
	if !c.isStated(r) || c.wrong && r.Kind != api.LoWrong {
		return false
	}
	tests := [...]func(r api.LoReason) bool{
		api.LoWrong:   c.isWrong,
		api.LoSky:     c.lightsSky,
		api.LoWindow:  c.lightsWindow,
		api.LoLeast:   c.hasDarkPatch,
		api.LoAverage: c.isDim,
		api.LoUniform: c.isUneven,
		api.LoGlare:   c.dazzles,
	}
	return tests[r.Kind](r)
}

// isStated reports whether the kind of a reason is one, its need is one of the task, and the indices that the kind does
// not have are 0.
func (c *trial) isStated(r api.LoReason) bool {
	own := api.LoReason{Kind: r.Kind}
	switch r.Kind {
	case api.LoWrong, api.LoSky:
	case api.LoWindow:
		own.Front, own.Window = r.Front, r.Window
	case api.LoLeast:
		own.Patch = r.Patch
		fallthrough
	case api.LoAverage, api.LoUniform, api.LoGlare:
		own.Need = r.Need
		if !isIndex(r.Need, c.task.Needs) {
			return false
		}
	default:
		return false
	}
	return r == own
}

func (c *trial) isWrong(api.LoReason) bool { return c.wrong }

func (c *trial) lightsSky(api.LoReason) bool {
	n, _ := light.Sky(c.scene)
	return n > c.task.Sky
}

// lightsWindow reports whether a window of the scene, if it is one, gets too much light.
func (c *trial) lightsWindow(r api.LoReason) bool {
	n, e := light.Window(c.scene, r.Front, r.Window)
	return e == api.OK && n > c.task.Window
}

// hasDarkPatch reports whether a patch of a road, if it is one, may have too little light.
func (c *trial) hasDarkPatch(r api.LoReason) bool {
	need := c.task.Needs[r.Need]
	list := patchesOf(c.scene.Road, need)
	return isIndex(r.Patch, list) && c.onPatch(list[r.Patch], need.Class).Lo < need.Class.Least
}

func (c *trial) isDim(r api.LoReason) bool {
	return c.judge(r.Need).Average.Lo < c.task.Needs[r.Need].Class.Average
}

func (c *trial) isUneven(r api.LoReason) bool {
	return c.judge(r.Need).Uniform < c.task.Needs[r.Need].Class.Uniform
}

func (c *trial) dazzles(r api.LoReason) bool {
	return c.judge(r.Need).Glare > c.task.Needs[r.Need].Class.Glare
}

// onPatch returns the value of a patch for a class.
func (c *trial) onPatch(p api.RdPatch, class api.LtClass) api.Encl {
	var x api.Encl
	if class.Kind == api.LtBright {
		x, _ = light.Bright(c.scene, p, class.DX, class.DY)
	} else {
		x, _ = light.Lux(c.scene, p)
	}
	return x
}

// patchesOf returns the patches of the road of a need, as package light judges them: cut to the coordinates of places.
func patchesOf(s api.RdScene, need api.LoNeed) []api.RdPatch {
	squares, _ := road.Patches(s, need.Road, need.Class.Step)
	var list []api.RdPatch
	for _, p := range squares {
		p.X0, p.Y0 = max(p.X0, -api.MaxRdPlace), max(p.Y0, -api.MaxRdPlace)
		p.X1, p.Y1 = min(p.X1, api.MaxRdPlace), min(p.Y1, api.MaxRdPlace)
		if p.X0 <= p.X1 && p.Y0 <= p.Y1 {
			list = append(list, p)
		}
	}
	return list
}
